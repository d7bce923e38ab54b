/- QueuePut, the program's and the model's: all of several behind what waits, or none. Nothing that was there is written. -/
import Derived.Test.YtmfnbbjhaolhgaaFreshQueue
import Derived.Test.YtmfnbbjhaolhgaaQueueWith
namespace Go.Proofs.Ytmfnbbjhaolhgaa
open Go.RowKit Go.Joins
set_option linter.unusedVariables false

/-- The code of a put. -/
def putCode (q l : List (Int × ByteArray)) : Int := if 400 < l.length then 2 else if qRightB q = false ∨ allB l = false then 1 else if 16 < q.length + l.length then 9 else 0
theorem putCode_size {q l : List (Int × ByteArray)} (h : 400 < l.length) : putCode q l = 2 := if_pos h
theorem putCode_form {q l : List (Int × ByteArray)} (h : ¬ 400 < l.length) (h2 : qRightB q = false ∨ allB l = false) : putCode q l = 1 := by rw [putCode, if_neg h, if_pos h2]
theorem putCode_full {q l : List (Int × ByteArray)} (h : ¬ 400 < l.length) (h1 : qRightB q = true) (h2 : allB l = true) (h3 : 16 < q.length + l.length) : putCode q l = 9 := by
  rw [putCode, if_neg h, if_neg (by rw [h1, h2]; simp), if_pos h3]
theorem putCode_ok {q l : List (Int × ByteArray)} (h : ¬ 400 < l.length) (h1 : qRightB q = true) (h2 : allB l = true) (h3 : ¬ 16 < q.length + l.length) : putCode q l = 0 := by
  rw [putCode, if_neg h, if_neg (by rw [h1, h2]; simp), if_neg h3]
theorem putCode_zero {q l : List (Int × ByteArray)} (h : putCode q l = 0) : ¬ 400 < l.length ∧ qRightB q = true ∧ allB l = true ∧ ¬ 16 < q.length + l.length := by
  unfold putCode at h
  split at h
  · cases h
  split at h
  · cases h
  split at h
  · cases h
  · rename_i h1 h2 h3
    refine ⟨h1, ?_, ?_, h3⟩
    · rcases hq : qRightB q
      · exact absurd (.inl hq) h2
      · rfl
    · rcases hq : allB l
      · exact absurd (.inr hq) h2
      · rfl
/-- What a put leaves. -/
def putL (q l : List (Int × ByteArray)) : List (Int × ByteArray) := if putCode q l = 0 then q ++ l else []

/-- An answer of QueuePut or QueueTake, in new memory. -/
def QOut (w : World) (L : List (Int × ByteArray)) (n : Int) (s : ByteArray) (c : Int) (e : Ending) (w' : World) : Prop :=
  ∃ a cap, e = .returned (.agg #[.slice a L.length cap, .int .i64 n, .string s, .int .i64 c]) ∧ L.length ≤ cap ∧ NewIn w.heap.size w'.heap.size w' a L ∧ Below w.heap.size w w'
/-- A Queue, in new memory. -/
def QNew (w : World) (L : List (Int × ByteArray)) (e : Ending) (w' : World) : Prop :=
  ∃ a cap, e = .returned (.agg #[.slice a L.length cap]) ∧ L.length ≤ cap ∧ NewIn w.heap.size w'.heap.size w' a L ∧ Below w.heap.size w w'

set_option maxHeartbeats 2000000 in
theorem putFault_any (a a' : Option Addr) (c c' : Nat) (q l : List (Int × ByteArray)) (w : World) (h : CansIn w a q) (hok : CansOk q) (hlen : q.length ≤ 1048576) (h' : CansIn w a' l) (hok' : CansOk l) (hlen' : l.length ≤ 1048576) :
    Calls Try.prog 36 #[.agg #[.slice a q.length c], .slice a' l.length c'] w fun e w' => e = .returned (.int .i64 (putCode q l)) ∧ Below w.heap.size w w' := by
  have HB := Lib.hid (fun o : Obj => (Below.refl w.heap.size w).alloc (Nat.le_refl _) o)
  have HQ := fun W hW => Lib.hid (implQueueRight_any a c q W hW hok hlen)
  have HA := fun W hW => Lib.hid (implAllRight_any a' c' l W hW hok' hlen')
  have HC := Lib.hid h
  have HC' := Lib.hid h'
  clear h h' hok hok'
  by_cases h4 : 400 < l.length
  · have hd : decide (400 < (l.length : Int)) = true := decide_eq_true (by omega)
    have HP := Lib.hid (putCode_size (q := q) h4)
    go_enter Try.func36, Try.ntmps36
    go_wp2_with fail
    go_ret
    exact ⟨by rw [HP.out]; rfl, HB.out _⟩
  have hd : decide (400 < (l.length : Int)) = false := decide_eq_false (by omega)
  rcases hq : qRightB q
  · rw [hq] at HQ
    have HP := Lib.hid (putCode_form (l := l) h4 (.inl hq))
    go_enter Try.func36, Try.ntmps36
    go_wp2_with fail
    refine (HQ _ (HC.out.kept (HB.out _))).out.mono ?_
    rintro e w1 ⟨rfl, h1⟩
    go_wp2_with fail
    go_ret
    exact ⟨by rw [HP.out]; rfl, (HB.out _).trans (h1.mono (by simp))⟩
  rw [hq] at HQ
  rcases ha : allB l
  · rw [ha] at HA
    have HP := Lib.hid (putCode_form (q := q) h4 (.inr ha))
    go_enter Try.func36, Try.ntmps36
    go_wp2_with fail
    refine (HQ _ (HC.out.kept (HB.out _))).out.mono ?_
    rintro e w1 ⟨rfl, h1⟩
    have b1 := (HB.out _).trans (h1.mono (by simp))
    go_wp2_with fail
    refine (HA _ (HC'.out.kept b1)).out.mono ?_
    rintro e w2 ⟨rfl, h2⟩
    go_wp2_with fail
    go_ret
    exact ⟨by rw [HP.out]; rfl, b1.trans (h2.mono b1.size)⟩
  rw [ha] at HA
  have hw : IntKind.i64.wrap ((q.length : Int) + (l.length : Int)) = (q.length : Int) + l.length := IntWalk.i64_in _ (by omega)
  obtain ⟨d, hd2⟩ : ∃ d : Bool, decide (16 < (q.length : Int) + (l.length : Int)) = d := ⟨_, rfl⟩
  have HP : Hid (putCode q l = if d then 9 else 0) := Lib.hid (by
    by_cases h3 : 16 < q.length + l.length
    · rw [putCode_full h4 hq ha h3, ← hd2, decide_eq_true (by omega)]; rfl
    · rw [putCode_ok h4 hq ha h3, ← hd2, decide_eq_false (by omega)]; rfl)
  cases d
  all_goals
    go_enter Try.func36, Try.ntmps36
    go_wp2_with fail
    refine (HQ _ (HC.out.kept (HB.out _))).out.mono ?_
    rintro e w1 ⟨rfl, h1⟩
    have b1 := (HB.out _).trans (h1.mono (by simp))
    have e1 : w1.cell? ⟨w.heap.size, 0, none⟩ = some (.slice a q.length c) := (h1.cell (p := ⟨w.heap.size, 0, none⟩) (by simp)).trans (by simp [go_sem])
    have s1 : w.heap.size < w1.heap.size := by have := h1.size; simp at this; omega
    go_wp2_with fail
    refine (HA _ (HC'.out.kept b1)).out.mono ?_
    rintro e w2 ⟨rfl, h2⟩
    have e2 := (h2.cell (p := ⟨w.heap.size, 0, none⟩) s1).trans e1
    go_wp2_with fail
    go_ret
    exact ⟨by rw [HP.out]; rfl, b1.trans (h2.mono b1.size)⟩
set_option maxRecDepth 100000 in
set_option maxHeartbeats 4000000 in
theorem implQueuePut_any (a a' : Option Addr) (c c' : Nat) (q l : List (Int × ByteArray)) (w : World) (h : CansIn w a q) (hok : CansOk q) (hlen : q.length ≤ 1048576) (h' : CansIn w a' l) (hok' : CansOk l) (hlen' : l.length ≤ 1048576) :
    Calls Try.prog 9 #[.agg #[.slice a q.length c], .slice a' l.length c'] w (QOut w (putL q l) 0 ⟨#[]⟩ (putCode q l)) := by
  have HB := Lib.hid (fun o o' : Obj => ((Below.refl w.heap.size w).alloc (Nat.le_refl _) o).alloc (by simp) o')
  have HF := fun W hW hW' => Lib.hid (putFault_any a a' c c' q l W hW hok hlen hW' hok' hlen')
  have HC := Lib.hid h
  have HC' := Lib.hid h'
  clear h h' hok hok'
  by_cases hz : putCode q l = 0
  · rw [hz] at HF ⊢
    have hL : putL q l = q ++ l := if_pos hz
    rw [hL]
    obtain ⟨g1, g2, g3, g4⟩ := putCode_zero hz
    have HSM : Hid (CansSmall (q ++ l)) := Lib.hid (by
      intro x hx
      rcases List.mem_append.1 hx with hx | hx
      · exact CansSmall.of_all (qRightB_of g2).2 x hx
      · exact CansSmall.of_all g3 x hx)
    have HL := Lib.hid (show (q ++ l).length ≤ 1048576 by simp; omega)
    have HL2 := Lib.hid (show q.length + l.length ≤ 1048576 by omega)
    have HW := fun W h h' => Lib.hid (with_any a a' c c' q l W h h' (by omega))
    clear g1 g2 g3 g4 hz hL
    obtain ⟨L, hLL⟩ : ∃ L, q ++ l = L := ⟨_, rfl⟩
    rw [hLL] at HW HSM HL ⊢
    clear hLL HL2
    go_enter Try.func9, Try.ntmps9
    go_wp2_with fail
    refine (HF _ (HC.out.kept (HB.out _ _)) (HC'.out.kept (HB.out _ _))).out.mono ?_
    rintro e w1 ⟨rfl, h1⟩
    have b1 := (HB.out _ _).trans (h1.mono (by simp; omega))
    have HA := Lib.hid (((RowAt.new w #[.slice a q.length c] 25).alloc _).kept h1)
    have HR := (RowAt.new _ _ _).kept h1
    simp only [World.size_alloc] at HR
    have HR := Lib.hid HR
    have e1 := HA.out.get 0 _ rfl
    clear h1
    go_wp2_with fail
    refine (waitingIn_any _ ⟨_, _, _, rfl⟩ _).mono ?_
    rintro e w2 ⟨rfl, h2⟩
    have b2 := b1.trans (h2.mono b1.size)
    have HR2 := Lib.hid (HR.out.kept h2)
    clear h2 e1 HR
    go_wp2_with fail
    refine (HW _ (HC.out.kept b2) (HC'.out.kept b2)).out.mono ?_
    rintro e w3 ⟨a3, c3, rfl, hc3, hn3, h3⟩
    have b3 := b2.trans (h3.mono b2.size)
    have HR3 := Lib.hid (HR2.out.kept h3)
    have HN3 := Lib.hid hn3
    clear h3 HR2 hn3 hc3
    go_wp2_with fail
    refine (freshQueue_any a3 c3 L _ HN3.out.cans HSM.out HL.out).mono ?_
    rintro e w4 ⟨a4, c4, rfl, hc4, hn4, h4⟩
    have b4 := b3.trans (h4.mono b3.size)
    have HR4 := Lib.hid (HR3.out.kept h4)
    have hlo := b3.size
    have HN4 := Lib.hid hn4
    have HC4 := Lib.hid hc4
    have hR := HR3.out.lt
    clear h4 HR3 HN3 hn4 hc4
    have x0 := HR4.out.get 0 _ rfl
    have x1 := HR4.out.get 1 _ rfl
    have x2 := HR4.out.get 2 _ rfl
    have x3 := HR4.out.get 3 _ rfl
    have y := HR4.out.free
    clear HA HR4 HL HSM
    go_wp2
    refine bodyPost_ret (v := .agg #[.slice a4 L.length c4, .int .i64 0, .string ⟨#[]⟩, .int .i64 0]) (by simp [results, Try.results9, go_sem, x0, x1, x2, x3]) rfl
      ⟨a4, c4, rfl, HC4.out, ?_, (((b4.setCell (by simp) _).setCell (by simp) _).setCell (by simp) _).setCell (by simp) _⟩
    refine NewIn.wide (lo := w3.heap.size) (hi := w4.heap.size) (NewIn.out (lo' := w.heap.size + 1) (hi' := w.heap.size + 2) HN4.out ?_ (.inr (by omega))) (by omega) (by simp)
    exact ((((Out.refl _ _ _).setCell (by simp) (by simp) _).setCell (by simp) (by simp) _).setCell (by simp) (by simp) _).setCell (by simp) (by simp) _
  · have hL : putL q l = [] := if_neg hz
    rw [hL]
    obtain ⟨k, hk⟩ : ∃ k, putCode q l = k := ⟨_, rfl⟩
    rw [hk] at HF hz ⊢
    have hd : (k == 0) = false := beq_eq_false_iff_ne.2 hz
    clear hk hL hz
    go_enter Try.func9, Try.ntmps9
    go_wp2_with fail
    refine (HF _ (HC.out.kept (HB.out _ _)) (HC'.out.kept (HB.out _ _))).out.mono ?_
    rintro e w1 ⟨rfl, h1⟩
    have b1 := (HB.out _ _).trans (h1.mono (by simp; omega))
    have HR := Lib.hid ((RowAt.new _ _ _).kept h1)
    clear h1
    have x0 := HR.out.get 0 _ rfl
    have x1 := HR.out.get 1 _ rfl
    have x2 := HR.out.get 2 _ rfl
    have x3 := HR.out.get 3 _ rfl
    have y := HR.out.free
    simp only [World.size_alloc] at x0 x1 x2 x3 y
    clear HR
    go_wp2
    exact bodyPost_ret (v := .agg #[.slice none 0 0, .int .i64 0, .string ⟨#[]⟩, .int .i64 k]) (by simp [results, Try.results9, go_sem, x0, x1, x2, x3]) rfl
      ⟨none, 0, rfl, Nat.le_refl _, .inl rfl, (((b1.setCell (by simp) _).setCell (by simp) _).setCell (by simp) _).setCell (by simp) _⟩
end Go.Proofs.Ytmfnbbjhaolhgaa
