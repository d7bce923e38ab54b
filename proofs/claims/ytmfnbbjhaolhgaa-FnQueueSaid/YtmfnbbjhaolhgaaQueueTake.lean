/- QueueTake, the program's: the first one of the least number goes out. Nothing that was there is written. -/
import Derived.Test.YtmfnbbjhaolhgaaSpecPut
import Derived.Test.YtmfnbbjhaolhgaaFirst
import Derived.Test.YtmfnbbjhaolhgaaKeep
namespace Go.Proofs.Ytmfnbbjhaolhgaa
open Go.RowKit Go.Joins
set_option linter.unusedVariables false

/-- The code of a take. -/
def takeCode (q : List (Int × ByteArray)) : Int := if qRightB q = false then 1 else if q.length = 0 then 6 else 0
theorem takeCode_form {q : List (Int × ByteArray)} (h : qRightB q = false) : takeCode q = 1 := if_pos h
theorem takeCode_none {q : List (Int × ByteArray)} (h : qRightB q = true) (h0 : q.length = 0) : takeCode q = 6 := by rw [takeCode, if_neg (by rw [h]; simp), if_pos h0]
theorem takeCode_ok {q : List (Int × ByteArray)} (h : qRightB q = true) (h0 : q.length ≠ 0) : takeCode q = 0 := by rw [takeCode, if_neg (by rw [h]; simp), if_neg h0]
theorem takeCode_zero {q : List (Int × ByteArray)} (h : takeCode q = 0) : qRightB q = true ∧ q.length ≠ 0 := by
  unfold takeCode at h
  split at h
  · cases h
  split at h
  · cases h
  · rename_i h1 h2
    refine ⟨?_, h2⟩
    rcases hq : qRightB q
    · exact absurd hq h1
    · rfl
/-- The place of what goes out. -/
def takeAt (q : List (Int × ByteArray)) : Nat := best q (q.length - 1)
/-- What is left. -/
def takeL (q : List (Int × ByteArray)) : List (Int × ByteArray) := if takeCode q = 0 then q.take (takeAt q) ++ q.drop (takeAt q + 1) else []
/-- What goes out. -/
def takeC (q : List (Int × ByteArray)) : Int × ByteArray := if takeCode q = 0 then canAt q (takeAt q) else (0, ⟨#[]⟩)
theorem takeAt_lt {q : List (Int × ByteArray)} (h : q.length ≠ 0) : takeAt q < q.length := by
  have := best_le q (q.length - 1)
  unfold takeAt
  omega

set_option maxHeartbeats 1000000 in
theorem empty_any (a : Option Addr) (n c : Nat) (w : World) :
    Calls Try.prog 41 #[.agg #[.slice a n c]] w fun e w' => e = .returned (.bool ((n : Int) == 0)) ∧ Below w.heap.size w w' := by
  go_enter Try.func41, Try.ntmps41
  go_wp2
  go_ret
  exact ⟨by rfl, (Below.refl _ _).alloc (Nat.le_refl _) _⟩
set_option maxHeartbeats 1000000 in
theorem takeFault_any (a : Option Addr) (c : Nat) (q : List (Int × ByteArray)) (w : World) (h : CansIn w a q) (hok : CansOk q) (hlen : q.length ≤ 1048576) :
    Calls Try.prog 40 #[.agg #[.slice a q.length c], .func (.func 41) #[.agg #[.slice a q.length c]] #[]] w fun e w' => e = .returned (.int .i64 (takeCode q)) ∧ Below w.heap.size w w' := by
  have HB := Lib.hid (fun o : Obj => (Below.refl w.heap.size w).alloc (Nat.le_refl _) o)
  have HQ := fun W hW => Lib.hid (implQueueRight_any a c q W hW hok hlen)
  have HC := Lib.hid h
  clear h
  rcases hq : qRightB q
  · rw [hq] at HQ
    have HP := Lib.hid (takeCode_form hq)
    go_enter Try.func40, Try.ntmps40
    go_wp2_with fail
    refine (HQ _ (HC.out.kept (HB.out _))).out.mono ?_
    rintro e w1 ⟨rfl, h1⟩
    go_wp2_with fail
    go_ret
    exact ⟨by rw [HP.out]; rfl, (HB.out _).trans (h1.mono (by simp))⟩
  rw [hq] at HQ
  obtain ⟨d, hd⟩ : ∃ d : Bool, ((q.length : Int) == 0) = d := ⟨_, rfl⟩
  have HP : Hid (takeCode q = if d then 6 else 0) := Lib.hid (by
    cases d
    · exact takeCode_ok hq (fun h => by rw [h] at hd; cases hd)
    · exact takeCode_none hq (by have := eq_of_beq hd; omega))
  have HE := fun W => Lib.hid (empty_any a q.length c W)
  rw [hd] at HE
  clear hd hq
  cases d
  all_goals
    go_enter Try.func40, Try.ntmps40
    go_wp2_with fail
    refine (HQ _ (HC.out.kept (HB.out _))).out.mono ?_
    rintro e w1 ⟨rfl, h1⟩
    have b1 := (HB.out _).trans (h1.mono (by simp))
    go_wp2_with fail
    refine (HE _).out.mono ?_
    rintro e w2 ⟨rfl, h2⟩
    go_wp2_with fail
    go_ret
    exact ⟨by rw [HP.out]; rfl, b1.trans (h2.mono b1.size)⟩
set_option maxHeartbeats 1000000 in
theorem implQueueTake_any (a : Option Addr) (c : Nat) (q : List (Int × ByteArray)) (w : World) (h : CansIn w a q) (hok : CansOk q) (hlen : q.length ≤ 1048576) (hcap : q.length ≤ c) :
    Calls Try.prog 11 #[.agg #[.slice a q.length c]] w (QOut w (takeL q) (takeC q).1 (takeC q).2 (takeCode q)) := by
  have HB := Lib.hid (fun o o' : Obj => ((Below.refl w.heap.size w).alloc (Nat.le_refl _) o).alloc (by simp) o')
  have HF := fun W hW => Lib.hid (takeFault_any a c q W hW hok hlen)
  have HC := Lib.hid h
  by_cases hz : takeCode q = 0
  · have hT : takeL q = q.take (takeAt q) ++ q.drop (takeAt q + 1) := if_pos hz
    have hC : takeC q = canAt q (takeAt q) := if_pos hz
    rw [hz] at HF ⊢
    obtain ⟨g1, g2⟩ := takeCode_zero hz
    have hlt := takeAt_lt g2
    have hsm := (CansSmall.of_all (qRightB_of g1).2).at hlt
    have HSM : Hid (CansSmall (takeL q)) := Lib.hid (by
      intro x hx
      rw [hT] at hx
      rcases List.mem_append.1 hx with hx | hx
      · exact CansSmall.of_all (qRightB_of g1).2 x (List.mem_of_mem_take hx)
      · exact CansSmall.of_all (qRightB_of g1).2 x (List.mem_of_mem_drop hx))
    have HLe : Hid ((takeL q).length ≤ 1048576) := Lib.hid (by
      rw [hT]
      simp
      omega)
    have hfi : firstI q = (takeAt q : Int) := firstI_ok (by omega) (by have := (qRightB_of g1).1; omega) (qRightB_of g1).2
    have HFI := fun W hW => Lib.hid (implFirst_any a c q W hW hok hlen)
    rw [hfi] at HFI
    rcases h with h0 | ⟨b, o, rfl, hb, hc⟩
    · rw [h0] at g2
      exact absurd rfl g2
    have hq := hc _ _ (canAt_some hlt)
    have HW := fun W hW => Lib.hid (without_any b o c (takeAt q) q W hW hlt hcap hlen)
    rw [← hT] at HW
    rw [hC]
    generalize canAt q (takeAt q) = x at *
    generalize takeAt q = k at *
    generalize takeL q = L at *
    obtain ⟨n, s⟩ := x
    simp only at hq hsm ⊢
    obtain ⟨q0, q1⟩ := hq
    have hi1 : (0 : Int) ≤ (k : Int) := by omega
    have hi2 : (k : Int) < (q.length : Int) := by omega
    clear hT hC g1 g2 hz hfi hc hcap
    go_enter Try.func11, Try.ntmps11
    go_wp2_with fail
    refine (waitingIn_any _ ⟨_, _, _, rfl⟩ _).mono ?_
    rintro e w1 ⟨rfl, h1⟩
    have b1 := (HB.out _ _).trans (h1.mono (by simp; omega))
    have hs1 : w.heap.size + 1 < w1.heap.size := by have := h1.size; simp at this; omega
    have HA := (RowAt.new w #[.slice (some ⟨b, o, none⟩) q.length c] 25).alloc (.cells #[.slice none 0 0, .int .i64 0, .string ⟨#[]⟩, .int .i64 0] 31)
    have HA1 := Lib.hid (HA.kept h1)
    have e1 := HA1.out.get 0 _ rfl
    have l1 := HA1.out.lt
    have HR := (RowAt.new _ _ _).kept h1
    simp only [World.size_alloc] at HR
    have HR1 := Lib.hid (HR.alloc (.cells #[.slice (some ⟨b, o, none⟩) q.length c] 63))
    have HX1 := Lib.hid (RowAt.new w1 #[.slice (some ⟨b, o, none⟩) q.length c] 63)
    have b1' := b1.alloc b1.size (.cells #[.slice (some ⟨b, o, none⟩) q.length c] 63)
    clear h1 HA HR
    go_wp2_with fail
    refine (HF _ (HC.out.kept b1')).out.mono ?_
    rintro e w2 ⟨rfl, h2⟩
    have b2 := b1'.trans (h2.mono b1'.size)
    have HR2 := Lib.hid (HR1.out.kept h2)
    have HX2 := Lib.hid (HX1.out.kept h2)
    have x2 := HX2.out.get 0 _ rfl
    clear h2 HR1 HX1 HA1 e1 l1 b1'
    go_wp2_with fail
    refine (HFI _ (HC.out.kept b2)).out.mono ?_
    rintro e w3 ⟨rfl, h3⟩
    have b3 := b2.trans (h3.mono b2.size)
    have HR3 := Lib.hid (HR2.out.kept h3)
    have HX3 := Lib.hid (HX2.out.kept h3)
    have x3 := HX3.out.get 0 _ rfl
    have lx := HX3.out.lt
    have lr := HR3.out.lt
    have p0 := (b3.cell (p := ⟨b, o + k * 2, none⟩) hb).trans q0
    have p1 := (b3.cell (p := ⟨b, o + k * 2 + 1, none⟩) hb).trans q1
    have HS1 := Lib.hid hs1
    clear h3 HR2 HX2 x2
    go_wp2_with fail
    have lb : b < w3.heap.size := by omega
    have hle3 : w.heap.size ≤ w3.heap.size := by omega
    have nX : w1.heap.size ≠ w.heap.size + 1 := by omega
    have nb : b ≠ w.heap.size + 1 := by omega
    go_region_held3 (fun W => (W.cell? ⟨w1.heap.size, 0, none⟩ = some (.slice (some ⟨b, o, none⟩) q.length c) ∧ W.cell? ⟨b, o + k * 2, none⟩ = some (.int .i64 n) ∧ W.cell? ⟨b, o + k * 2 + 1, none⟩ = some (.string s)) ∧ Below w.heap.size w W ∧ w3.heap.size ≤ W.heap.size)
      (first | assumption | (with_reducible exact three_first x3 p0 p1 b3 (Nat.le_refl _)) | (with_reducible exact three_call lx lb lb hle3 (by assumption) (by assumption)) | (with_reducible exact three_set4 nX nb nb (Nat.le_succ w.heap.size) rfl rfl rfl (by assumption)))
      (first
        | (go_at_call 43; (with_reducible refine (HW _ (HC.out.kept b3.drew)).out.mono ?_); rintro e w4 ⟨a4, c4, rfl, hc4, hn4, h4⟩; have HR4 := Lib.hid (HR3.out.drew.kept h4); have HN4 := Lib.hid hn4; clear hc4 hn4)
        | (go_at_call 37; (with_reducible refine (freshQueue_any a4 c4 L _ HN4.out.cans HSM.out HLe.out).mono ?_); rintro e w5 ⟨a5, c5, rfl, hc5, hn5, h5⟩; have HR5 := Lib.hid (HR4.out.kept h5); have HN5 := Lib.hid hn5; have HC5 := Lib.hid hc5; have HS4 := Lib.hid HR4.out.lt; clear hc5 hn5)
        | (go_at_call 44; (with_reducible refine (fresh_any n s _ hsm).mono ?_); rintro e w6 ⟨rfl, h6⟩; have HR6 := HR5.out.kept h6; have HN6 := Lib.hid (HN5.out.kept h6); have HS6 := Lib.hid h6.size; have y0 := HR6.get 0 _ rfl; have y1 := HR6.get 1 _ rfl; have y2 := HR6.get 2 _ rfl; have y3 := HR6.get 3 _ rfl; have y4 := HR6.free; clear HR6))
    have b6 : Below w.heap.size w w6 := ((b3.drew.trans (h4.mono hle3)).trans (h5.mono (by have := h4.size; simp at this; omega))).trans (h6.mono (by have := h4.size; have := h5.size; simp at *; omega))
    clear h4 h5 h6 HN4 HN5 HR3 HR4 HR5 HX3
    go_wp2
    refine bodyPost_ret (v := .agg #[.slice a5 L.length c5, .int .i64 n, .string s, .int .i64 0]) (by simp [results, Try.results11, go_sem, y0, y1, y2, y3]) rfl
      ⟨a5, c5, rfl, HC5.out, ?_, (((b6.setCell (by simp) _).setCell (by simp) _).setCell (by simp) _).setCell (by simp) _⟩
    have hs4 := HS4.out
    refine NewIn.wide (lo := w4.heap.size) (hi := w5.heap.size) (NewIn.out (lo' := w.heap.size + 1) (hi' := w.heap.size + 2) HN6.out ?_ (.inr (by omega))) (by omega) ?_
    · exact ((((Out.refl _ _ _).setCell (by simp) (by simp) _).setCell (by simp) (by simp) _).setCell (by simp) (by simp) _).setCell (by simp) (by simp) _
    · have := HS6.out
      simpa using this
  · have hT : takeL q = [] := if_neg hz
    have hC : takeC q = (0, ⟨#[]⟩) := if_neg hz
    rw [hT, hC]
    obtain ⟨k, hk⟩ : ∃ k, takeCode q = k := ⟨_, rfl⟩
    rw [hk] at HF hz ⊢
    have hd : (k == 0) = false := beq_eq_false_iff_ne.2 hz
    clear hk hT hC hz h
    go_enter Try.func11, Try.ntmps11
    go_wp2_with fail
    refine (waitingIn_any _ ⟨_, _, _, rfl⟩ _).mono ?_
    rintro e w1 ⟨rfl, h1⟩
    have b1 := (HB.out _ _).trans (h1.mono (by simp; omega))
    have HA1 := Lib.hid (((RowAt.new w #[.slice a q.length c] 25).alloc (.cells #[.slice none 0 0, .int .i64 0, .string ⟨#[]⟩, .int .i64 0] 31)).kept h1)
    have e1 := HA1.out.get 0 _ rfl
    have l1 := HA1.out.lt
    have HR := (RowAt.new _ _ _).kept h1
    simp only [World.size_alloc] at HR
    have HR1 := Lib.hid (HR.alloc (.cells #[.slice a q.length c] 63))
    have b1' := b1.alloc b1.size (.cells #[.slice a q.length c] 63)
    clear h1 HR
    go_wp2_with fail
    refine (HF _ (HC.out.kept b1')).out.mono ?_
    rintro e w2 ⟨rfl, h2⟩
    have b2 := b1'.trans (h2.mono b1'.size)
    have HR2 := HR1.out.kept h2
    have y0 := HR2.get 0 _ rfl
    have y1 := HR2.get 1 _ rfl
    have y2 := HR2.get 2 _ rfl
    have y3 := HR2.get 3 _ rfl
    have y4 := HR2.free
    clear h2 HR1 HR2 HA1 e1 l1 b1'
    go_wp2
    exact bodyPost_ret (v := .agg #[.slice none 0 0, .int .i64 0, .string ⟨#[]⟩, .int .i64 k]) (by simp [results, Try.results11, go_sem, y0, y1, y2, y3]) rfl
      ⟨none, 0, rfl, Nat.le_refl _, .inl rfl, (((b2.setCell (by simp) _).setCell (by simp) _).setCell (by simp) _).setCell (by simp) _⟩
end Go.Proofs.Ytmfnbbjhaolhgaa
