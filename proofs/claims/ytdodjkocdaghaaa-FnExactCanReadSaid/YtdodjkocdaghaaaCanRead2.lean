/- The Can of a text, the program's. For every text; nothing that was there is written. -/
import Derived.Test.YtdodjkocdaghaaaCanRead
import Derived.Deep.RegionHeld3
import Derived.Deep.DeepCutAuto
import Derived.Deep.CutRange
namespace Go.Proofs.Ytdodjkocdaghaaa
open Go.RowKit
set_option linter.unusedVariables false

set_option maxHeartbeats 1000000 in
theorem numberOf_any (x0 x1 x2 x3 : Int) (w : World) (h0 : 0 ≤ x0 ∧ x0 ≤ 255) (h1 : 0 ≤ x1 ∧ x1 ≤ 255) (h2 : 0 ≤ x2 ∧ x2 ≤ 255) (h3 : 0 ≤ x3 ∧ x3 ≤ 255) :
    Calls Try.prog 51 #[.agg #[.int .u8 x0, .int .u8 x1, .int .u8 x2, .int .u8 x3]] w fun e w' => e = .returned (.int .i64 (256 * (256 * (256 * x0 + x1) + x2) + x3)) ∧ Below w.heap.size w w' := by
  obtain ⟨y1, hy1⟩ : ∃ y, 256 * x0 + x1 = y := ⟨_, rfl⟩
  obtain ⟨y2, hy2⟩ : ∃ y, 256 * y1 + x2 = y := ⟨_, rfl⟩
  obtain ⟨y3, hy3⟩ : ∃ y, 256 * y2 + x3 = y := ⟨_, rfl⟩
  have r1 : 0 ≤ y1 ∧ y1 ≤ 65535 := by omega
  have r2 : 0 ≤ y2 ∧ y2 ≤ 16777215 := by omega
  have r3 : 0 ≤ y3 ∧ y3 ≤ 4294967295 := by omega
  rw [hy1, hy2, hy3]
  have q1 : x0 * 256 + x1 = y1 := by omega
  have q2 : y1 * 256 + x2 = y2 := by omega
  have q3 : y2 * 256 + x3 = y3 := by omega
  clear hy1 hy2 hy3
  have i0 : ∀ w : World, (Instr.index 68 (.agg #[.int .u8 x0, .int .u8 x1, .int .u8 x2, .int .u8 x3]) (.int .i64 0)).run Try.prog w = .ok (.int .u8 x0) w := fun _ => by kernel_rfl
  have i1 : ∀ w : World, (Instr.index 68 (.agg #[.int .u8 x0, .int .u8 x1, .int .u8 x2, .int .u8 x3]) (.int .i64 1)).run Try.prog w = .ok (.int .u8 x1) w := fun _ => by kernel_rfl
  have i2 : ∀ w : World, (Instr.index 68 (.agg #[.int .u8 x0, .int .u8 x1, .int .u8 x2, .int .u8 x3]) (.int .i64 2)).run Try.prog w = .ok (.int .u8 x2) w := fun _ => by kernel_rfl
  have i3 : ∀ w : World, (Instr.index 68 (.agg #[.int .u8 x0, .int .u8 x1, .int .u8 x2, .int .u8 x3]) (.int .i64 3)).run Try.prog w = .ok (.int .u8 x3) w := fun _ => by kernel_rfl
  go_enter Try.func51, Try.ntmps51
  go_wp2
  refine wp_loop_rounds 5 ?_
  iterate 5 (rw [rounds_succ]; go_wp2)
  go_ret
  exact ⟨rfl, (Below.refl _ _).alloc (Nat.le_refl _) _⟩

theorem joined_none (d : ByteArray) (W : World) (h : d.size ≤ 1000000) : Calls Try.prog 48 #[.string ⟨#[]⟩, .string d] W fun e w' => e = .returned (.string d) ∧ Below W.heap.size W w' := by
  have := joined_any ⟨#[]⟩ d W (by show 0 ≤ _; omega) h
  have e : ByteArray.mk ((ByteArray.mk #[]).data.toList ++ d.data.toList).toArray = d := by
    apply ByteArray.ext
    simp
  rwa [e] at this

theorem head4 {t : ByteArray} {a0 a1 a2 a3 a4 : UInt8} {r : List UInt8} (e : t = ⟨(a0 :: a1 :: a2 :: a3 :: a4 :: r).toArray⟩) : t.extract 0 4 = ⟨[a0, a1, a2, a3].toArray⟩ := by
  rw [e, extract_take]
  rfl

/-- The array's cells, and that nothing up to it has turned. -/
def ArrS (u : World) (x0 x1 x2 x3 : Value) (T : TypeId) (W : World) : Prop :=
  (W.cell? ⟨u.heap.size, 0, none⟩ = some x0 ∧ W.cell? ⟨u.heap.size, 1, none⟩ = some x1 ∧ W.cell? ⟨u.heap.size, 2, none⟩ = some x2 ∧ W.cell? ⟨u.heap.size, 3, none⟩ = some x3) ∧ Below (u.heap.size + 1) (u.alloc (.cells #[x0, x1, x2, x3] T)) W
section
variable {u W : World} {x0 x1 x2 x3 : Value} {T : TypeId}
theorem arr_of (h : Below (u.heap.size + 1) (u.alloc (.cells #[x0, x1, x2, x3] T)) W) : ArrS u x0 x1 x2 x3 T W := by
  refine ⟨⟨?_, ?_, ?_, ?_⟩, h⟩ <;> (rw [h.cell (by simp)]; simp)
theorem arr_first : ArrS u x0 x1 x2 x3 T (u.alloc (.cells #[x0, x1, x2, x3] T)).drew := arr_of (Below.refl _ _).drew
theorem arr_alloc (h : ArrS u x0 x1 x2 x3 T W) {o : Obj} : ArrS u x0 x1 x2 x3 T (W.alloc o) := arr_of (h.2.alloc (by have := h.2.size; simp at this; omega) _)
theorem arr_call (h : ArrS u x0 x1 x2 x3 T W) {W' : World} (hb : Below W.heap.size W W') : ArrS u x0 x1 x2 x3 T W' := arr_of (h.2.trans (hb.mono (by have := h.2.size; simp at this; omega)))
theorem arr_set (h : ArrS u x0 x1 x2 x3 T W) {p : Addr} {v : Value} (hp : u.heap.size + 1 ≤ p.block) : ArrS u x0 x1 x2 x3 T (W.setCell p v) := arr_of (h.2.setCell hp _)
end

theorem two_set {W : World} {g : Nat} {v0 v1 : Value} (h0 : (W.cell? ⟨g, 0, none⟩).isSome = true) (h1 : (W.cell? ⟨g, 1, none⟩).isSome = true) :
    ((W.setCell ⟨g, 0, none⟩ v0).setCell ⟨g, 1, none⟩ v1).cell? ⟨g, 0, none⟩ = some v0 ∧ ((W.setCell ⟨g, 0, none⟩ v0).setCell ⟨g, 1, none⟩ v1).cell? ⟨g, 1, none⟩ = some v1 := by
  obtain ⟨u0, h0⟩ := Option.isSome_iff_exists.1 h0
  obtain ⟨u1, h1⟩ := Option.isSome_iff_exists.1 h1
  constructor
  · rw [World.cell?_setCell_other _ _ _ _ (by simp), World.cell?_setCell_same _ _ _ h0]
  · rw [World.cell?_setCell_same _ _ _ (u := u1) (by rw [World.cell?_setCell_other _ _ _ _ (by simp)]; exact h1)]
/-- The two cells of a Can are there, and nothing up to it has turned. -/
theorem can_of {wc W : World} {g : Nat} {x0 x1 : Value} (gh : g < wc.heap.size) (g0 : wc.cell? ⟨g, 0, none⟩ = some x0) (g1 : wc.cell? ⟨g, 1, none⟩ = some x1) (h : Below wc.heap.size wc W) :
    (W.cell? ⟨g, 0, none⟩ = some x0 ∧ W.cell? ⟨g, 1, none⟩ = some x1) ∧ Below wc.heap.size wc W :=
  ⟨⟨(h.cell (p := ⟨g, 0, none⟩) gh).trans g0, (h.cell (p := ⟨g, 1, none⟩) gh).trans g1⟩, h⟩
theorem can_first {wc : World} {g : Nat} {x0 x1 : Value} (g0 : wc.cell? ⟨g, 0, none⟩ = some x0) (g1 : wc.cell? ⟨g, 1, none⟩ = some x1) :
    (wc.drew.cell? ⟨g, 0, none⟩ = some x0 ∧ wc.drew.cell? ⟨g, 1, none⟩ = some x1) ∧ Below wc.heap.size wc wc.drew := ⟨⟨g0, g1⟩, (Below.refl _ _).drew⟩
theorem can_call {wc W W' : World} {g : Nat} {x0 x1 : Value} (gh : g < wc.heap.size) (h : (W.cell? ⟨g, 0, none⟩ = some x0 ∧ W.cell? ⟨g, 1, none⟩ = some x1) ∧ Below wc.heap.size wc W) (hb : Below W.heap.size W W') :
    (W'.cell? ⟨g, 0, none⟩ = some x0 ∧ W'.cell? ⟨g, 1, none⟩ = some x1) ∧ Below wc.heap.size wc W' :=
  ⟨⟨(hb.cell (p := ⟨g, 0, none⟩) (Nat.lt_of_lt_of_le gh h.2.size)).trans h.1.1, (hb.cell (p := ⟨g, 1, none⟩) (Nat.lt_of_lt_of_le gh h.2.size)).trans h.1.2⟩, h.2.trans (hb.mono h.2.size)⟩

set_option maxHeartbeats 2000000 in
theorem implCanRead_mid (t : ByteArray) (w : World) (h5 : 5 ≤ t.size) (hs : t.size ≤ 8000) :
    Calls Try.prog 19 #[.string t] w fun e w' => e = .returned (if readB t = true then canOutV (be4 t) (tail5 t) 0 else canOutV 0 ⟨#[]⟩ 3) ∧ Below w.heap.size w w' := by
  have hd : decide (8000 < (t.size : Int)) = false := by simp; omega
  have hd2 : decide ((t.size : Int) < 5) = false := by simp; omega
  have hm : t.size ≤ maxLen := by unfold maxLen; omega
  have HM := Lib.hid hm
  clear hm
  obtain ⟨a0, a1, a2, a3, a4, r, e⟩ := five h5
  have hex := Lib.hid (head4 e)
  have e0 : byteAt t 0 = a0.toNat := by rw [e]; rfl
  have e1 : byteAt t 1 = a1.toNat := by rw [e]; rfl
  have e2 : byteAt t 2 = a2.toNat := by rw [e]; rfl
  have e3 : byteAt t 3 = a3.toNat := by rw [e]; rfl
  have HN : ∀ W, Hid (Calls Try.prog 51 #[.agg #[.int .u8 a0.toNat, .int .u8 a1.toNat, .int .u8 a2.toNat, .int .u8 a3.toNat]] W fun e w' => e = .returned (.int .i64 (be4 t)) ∧ Below W.heap.size W w') := fun W => by
    have := numberOf_any a0.toNat a1.toNat a2.toNat a3.toNat W (by have := a0.toNat_lt; omega) (by have := a1.toNat_lt; omega) (by have := a2.toNat_lt; omega) (by have := a3.toNat_lt; omega)
    rw [← e0, ← e1, ← e2, ← e3] at this
    rw [← e0, ← e1, ← e2, ← e3]
    exact this
  have HJ : ∀ W, Hid (Calls Try.prog 48 #[.string ⟨#[]⟩, .string (t.extract 5 t.size)] W fun e w' => e = .returned (.string (t.extract 5 t.size)) ∧ Below W.heap.size W w') := fun W => joined_none _ W (by simp; omega)
  have HC := fun W => Lib.hid (implCanRight_any (be4 t) (t.extract 5 t.size) W (by have := be4_lo t; omega) (by have := be4_hi t; omega) (by unfold maxLen; simp; omega))
  have HE4 := Lib.hid (show byteAt t 4 = a4.toNat by rw [e]; rfl)
  clear e e0 e1 e2 e3
  have hi5 : (5 : Int) ≤ (t.size : Int) := by omega
  have hi6 : ((5 : Nat) : Int) ≤ (t.size : Int) := by omega
  have har : ∀ (a : Addr) (cap : Nat) (W : World), (Instr.arrayAt 68 (.slice (some a) 4 cap)).run Try.prog W = .ok (.pointer (some a)) W := fun _ _ _ => by kernel_rfl
  unfold readB tail5
  obtain ⟨V, hV⟩ : ∃ V, (if (canB (be4 t) (t.extract 5 t.size) && decide (byteAt t 4 = ((t.extract 5 t.size).size : Int))) = true then canOutV (be4 t) (t.extract 5 t.size) 0 else canOutV 0 ⟨#[]⟩ 3) = V := ⟨_, rfl⟩
  rw [hV]
  have HV := Lib.hid hV
  clear hV
  go_enter Try.func19, Try.ntmps19
  go_wp2_with (first
    | (go_at_call 50; refine (tooLong_any _ _ HM.out).mono ?_; rintro e w' ⟨rfl, rfl⟩)
    | (refine wpList_bytes rfl (.tmp 13) 9 22 5 rfl Try.underlying9 Try.underlying22 Try.underlying5 [a0, a1, a2, a3] (show Value.string (t.extract 0 4) = _ from congrArg Value.string hex.out) (fun cap u hin hb hz hcap => ?_); have q0 : u.cell? ⟨w.heap.size + 1, 0, none⟩ = some (.int .u8 (a0.toNat : Int)) := (by simpa using (hin 0 (by simp)).1); have q1 : u.cell? ⟨w.heap.size + 1, 1, none⟩ = some (.int .u8 (a1.toNat : Int)) := (by simpa using (hin 1 (by simp)).1); have q2 : u.cell? ⟨w.heap.size + 1, 2, none⟩ = some (.int .u8 (a2.toNat : Int)) := (by simpa using (hin 2 (by simp)).1); have q3 : u.cell? ⟨w.heap.size + 1, 3, none⟩ = some (.int .u8 (a3.toNat : Int)) := (by simpa using (hin 3 (by simp)).1)))
  have zu : w.heap.size + 1 < u.heap.size := by simpa using hz
  have bU : Below w.heap.size w (u.alloc (.cells #[.int .u8 a0.toNat, .int .u8 a1.toNat, .int .u8 a2.toNat, .int .u8 a3.toNat] 68)) := (((Below.refl _ _).alloc (Nat.le_refl _) _).trans (hb.mono (by simp))).alloc (by omega) _
  have bR : Below (w.heap.size + 1) (w.alloc (.cells #[.int .i64 0, .string ⟨#[]⟩, .int .i64 0] 37)) (u.alloc (.cells #[.int .u8 a0.toNat, .int .u8 a1.toNat, .int .u8 a2.toNat, .int .u8 a3.toNat] 68)) := (hb.mono (by simp)).alloc (by omega) _
  go_cut [4] (fun s4 wx => ∃ g, s4 = .pointer (some ⟨g, 0, none⟩) ∧ wx.cell? ⟨g, 0, none⟩ = some (.int .i64 (be4 t)) ∧ wx.cell? ⟨g, 1, none⟩ = some (.string (t.extract 5 t.size)) ∧ w.heap.size + 1 ≤ g ∧ g < wx.heap.size ∧ Below (w.heap.size + 1) (w.alloc (.cells #[.int .i64 0, .string ⟨#[]⟩, .int .i64 0] 37)) wx)
  case first =>
    go_region_held3 (fun W => (W.cell? ⟨u.heap.size, 0, none⟩ = some (.int .u8 a0.toNat) ∧ W.cell? ⟨u.heap.size, 1, none⟩ = some (.int .u8 a1.toNat) ∧ W.cell? ⟨u.heap.size, 2, none⟩ = some (.int .u8 a2.toNat) ∧ W.cell? ⟨u.heap.size, 3, none⟩ = some (.int .u8 a3.toNat)) ∧ Below (u.heap.size + 1) (u.alloc (.cells #[.int .u8 a0.toNat, .int .u8 a1.toNat, .int .u8 a2.toNat, .int .u8 a3.toNat] 68)) W)
      (first | assumption | exact arr_first | exact arr_alloc (by assumption) | exact arr_call (by assumption) (by assumption) | exact arr_set (arr_set (by assumption) (by simp <;> omega)) (by simp <;> omega))
      (first
        | (go_at_call 51; refine (HN _).out.mono ?_; rintro e w1 ⟨rfl, h1⟩; obtain ⟨c1, f1⟩ := bcell h1; have s1 : ArrS u (.int .u8 a0.toNat) (.int .u8 a1.toNat) (.int .u8 a2.toNat) (.int .u8 a3.toNat) 68 w1 := arr_call (by assumption) h1; have z1 : u.heap.size < w1.heap.size := (by have := s1.2.size; simp at this; omega); (try have y1 : u.heap.size + 1 < w1.heap.size := (by have := h1.size; simp at this; omega)))
        | (go_at_call 48; refine (HJ _).out.mono ?_; rintro e w2 ⟨rfl, h2⟩; obtain ⟨c2, f2⟩ := bcell h2; have s2 : ArrS u (.int .u8 a0.toNat) (.int .u8 a1.toNat) (.int .u8 a2.toNat) (.int .u8 a3.toNat) 68 w2 := arr_call (by assumption) h2; have z2 : u.heap.size < w2.heap.size := (by have := s2.2.size; simp at this; omega); (try have y2 : u.heap.size + 1 < w2.heap.size := (by have := h2.size; omega)); (try have x2 : w1.heap.size < w2.heap.size := (by have := h2.size; simp at this; omega))))
    all_goals go_wp2_with fail
    all_goals go_meet
    all_goals first
      | exact ⟨_, rfl, by simp, by simp, by omega, by simp, (bR.trans (s2.2.mono (by omega))).alloc (by omega) _⟩
      | exact ⟨_, rfl, (two_set (by rw [c2 _ _ (by simp)]; simp) (by rw [c2 _ _ (by simp)]; simp)).1, (two_set (by rw [c2 _ _ (by simp)]; simp) (by rw [c2 _ _ (by simp)]; simp)).2, by omega, by simp; omega, ((bR.trans (s2.2.mono (by omega))).setCell (by simp; omega) _).setCell (by simp; omega) _⟩
      | exact ⟨_, rfl, (two_set (by rw [c2 _ _ (by omega), c1 _ _ (by simp)]; simp [go_sem]) (by rw [c2 _ _ (by omega), c1 _ _ (by simp)]; simp [go_sem])).1, (two_set (by rw [c2 _ _ (by omega), c1 _ _ (by simp)]; simp [go_sem]) (by rw [c2 _ _ (by omega), c1 _ _ (by simp)]; simp [go_sem])).2, by omega, by simp; omega, ((bR.trans (s2.2.mono (by omega))).setCell (by simp; omega) _).setCell (by simp; omega) _⟩
  case rest =>
    obtain ⟨g, rfl, g0, g1, gl, gh, gb⟩ := hcut
    obtain ⟨hc, hf⟩ := bcell (gb.mono (by simp) : Below (w.alloc (.cells #[.int .i64 0, .string ⟨#[]⟩, .int .i64 0] 37)).heap.size _ _)
    have r0 : wc.cell? ⟨w.heap.size, 0, none⟩ = some (.int .i64 0) := by rw [hc _ _ (by simp)]; simp
    have r1 : wc.cell? ⟨w.heap.size, 1, none⟩ = some (.string ⟨#[]⟩) := by rw [hc _ _ (by simp)]; simp
    have r2 : wc.cell? ⟨w.heap.size, 2, none⟩ = some (.int .i64 0) := by rw [hc _ _ (by simp)]; simp
    have s0 : wc.frozen? ⟨w.heap.size, 0, none⟩ = false := by rw [hf _ _ (by simp)]; simp [go_sem]
    have s1 : wc.frozen? ⟨w.heap.size, 1, none⟩ = false := by rw [hf _ _ (by simp)]; simp [go_sem]
    have s2 : wc.frozen? ⟨w.heap.size, 2, none⟩ = false := by rw [hf _ _ (by simp)]; simp [go_sem]
    have lw : w.heap.size < wc.drew.heap.size := by show w.heap.size < wc.heap.size; omega
    clear har HN HJ hex q0 q1 q2 q3 hin hc hf
    rcases hcn : canB (be4 t) (t.extract 5 t.size)
    · rw [hcn] at HC
      have HS := Lib.hid (And.intro r0 (And.intro r1 (And.intro r2 (And.intro s0 (And.intro s1 s2)))))
      clear r0 r1 r2 s0 s1 s2
      go_wp2_with fail
      first
        | (go_region_with (first | (go_at_call 32; refine (HC _).out.mono ?_; rintro e w3 ⟨rfl, h3⟩)))
        | fail
      all_goals
        obtain ⟨c3, f3⟩ := bcell h3
        obtain ⟨r0, r1, r2, s0, s1, s2⟩ := HS.out
        have m0 := (c3 w.heap.size 0 lw).trans r0
        have m1 := (c3 w.heap.size 1 lw).trans r1
        have m2 := (c3 w.heap.size 2 lw).trans r2
        have n0 := (f3 w.heap.size 0 lw).trans s0
        have n1 := (f3 w.heap.size 1 lw).trans s1
        have n2 := (f3 w.heap.size 2 lw).trans s2
        clear c3 f3
        go_wp2
        have b3 : Below w.heap.size w w3 := ((((Below.refl _ _).alloc (Nat.le_refl _) _).trans (gb.mono (by omega))).drew).trans (h3.mono (by show w.heap.size ≤ wc.heap.size; omega))
        exact bodyPost_ret (v := canOutV 0 ⟨#[]⟩ 3) (by simp [results, Try.results19, go_sem, m0, m1, m2, canOutV]) rfl
          ⟨by rw [← HV.out]; simp [hcn, canOutV], ((b3.setCell (by simp) _).setCell (by simp) _).setCell (by simp) _⟩
    · rw [hcn] at HC
      have i4 : (t[4].toNat : Int) = byteAt t 4 := byteAt_get t 4 (by omega)
      have hl := byteAt_lo t 4
      have hh := byteAt_hi t 4
      have hwr : IntKind.i64.wrap (byteAt t 4) = byteAt t 4 := IntWalk.i64_in _ (by omega)
      by_cases hq : byteAt t 4 = ((t.size - 5 : Nat) : Int)
      · have hq1 : (byteAt t 4 == ((t.size - 5 : Nat) : Int)) = true := by simpa using hq
        have hq2 : (byteAt t 4 != ((t.size - 5 : Nat) : Int)) = false := by simpa using hq
        have HQ := Lib.hid hq
        clear hq
        go_wp2_with fail
        first
          | (go_region_with (first | (go_at_call 32; refine (HC _).out.mono ?_; rintro e w3 ⟨rfl, h3⟩; obtain ⟨c3, f3⟩ := bcell h3; have y0 : w3.cell? ⟨g, 0, none⟩ = some (.int .i64 (be4 t)) := (c3 _ _ gh).trans g0; have y1 : w3.cell? ⟨g, 1, none⟩ = some (.string (t.extract 5 t.size)) := (c3 _ _ gh).trans g1; have m0 := (c3 w.heap.size 0 lw).trans r0; have m1 := (c3 w.heap.size 1 lw).trans r1; have m2 := (c3 w.heap.size 2 lw).trans r2; have n0 := (f3 w.heap.size 0 lw).trans s0; have n1 := (f3 w.heap.size 1 lw).trans s1; have n2 := (f3 w.heap.size 2 lw).trans s2)))
          | fail
        all_goals
          go_wp2
          have b3 : Below w.heap.size w w3 := ((((Below.refl _ _).alloc (Nat.le_refl _) _).trans (gb.mono (by omega))).drew).trans (h3.mono (by show w.heap.size ≤ wc.heap.size; omega))
          exact bodyPost_ret (v := canOutV (be4 t) (t.extract 5 t.size) 0) (by simp [results, Try.results19, go_sem, m0, m1, m2, canOutV]) rfl
            ⟨by rw [← HV.out]; simp [hcn, HQ.out, canOutV], ((b3.setCell (by simp) _).setCell (by simp) _).setCell (by simp) _⟩
      · have hq1 : (byteAt t 4 == ((t.size - 5 : Nat) : Int)) = false := by simpa using hq
        have hq2 : (byteAt t 4 != ((t.size - 5 : Nat) : Int)) = true := by simpa using hq
        go_wp2_with fail
        first
          | (go_region_with (first | (go_at_call 32; refine (HC _).out.mono ?_; rintro e w3 ⟨rfl, h3⟩; obtain ⟨c3, f3⟩ := bcell h3; have y0 : w3.cell? ⟨g, 0, none⟩ = some (.int .i64 (be4 t)) := (c3 _ _ gh).trans g0; have y1 : w3.cell? ⟨g, 1, none⟩ = some (.string (t.extract 5 t.size)) := (c3 _ _ gh).trans g1; have m0 := (c3 w.heap.size 0 lw).trans r0; have m1 := (c3 w.heap.size 1 lw).trans r1; have m2 := (c3 w.heap.size 2 lw).trans r2; have n0 := (f3 w.heap.size 0 lw).trans s0; have n1 := (f3 w.heap.size 1 lw).trans s1; have n2 := (f3 w.heap.size 2 lw).trans s2)))
          | fail
        all_goals
          go_wp2
          have b3 : Below w.heap.size w w3 := ((((Below.refl _ _).alloc (Nat.le_refl _) _).trans (gb.mono (by omega))).drew).trans (h3.mono (by show w.heap.size ≤ wc.heap.size; omega))
          exact bodyPost_ret (v := canOutV 0 ⟨#[]⟩ 3) (by simp [results, Try.results19, go_sem, m0, m1, m2, canOutV]) rfl
            ⟨by rw [← HV.out]; simp [hcn, hq, canOutV], ((b3.setCell (by simp) _).setCell (by simp) _).setCell (by simp) _⟩

set_option maxHeartbeats 400000 in
theorem implCanRead_any (t : ByteArray) (w : World) (hs : t.size ≤ maxLen) :
    Calls Try.prog 19 #[.string t] w fun e w' => e = .returned (canReadV t) ∧ Below w.heap.size w w' := by
  by_cases ha : 8000 < t.size
  · rw [show canReadV t = canOutV 0 ⟨#[]⟩ 2 from if_pos ha]
    have hd : decide (8000 < (t.size : Int)) = true := by simp; omega
    go_enter Try.func19, Try.ntmps19
    go_wp2_with (go_at_call 50; refine (tooLong_any _ _ hs).mono ?_; rintro e w' ⟨rfl, rfl⟩)
    exact bodyPost_ret (v := canOutV 0 ⟨#[]⟩ 2) (by simp [results, Try.results19, go_sem, canOutV]) rfl ⟨rfl, (Below.refl _ _).alloc (Nat.le_refl _) _⟩
  have hd : decide (8000 < (t.size : Int)) = false := by simp; omega
  by_cases hb : t.size < 5
  · rw [show canReadV t = canOutV 0 ⟨#[]⟩ 4 by simp [canReadV, ha, hb]]
    have hd2 : decide ((t.size : Int) < 5) = true := by simp; omega
    go_enter Try.func19, Try.ntmps19
    go_wp2_with (go_at_call 50; refine (tooLong_any _ _ hs).mono ?_; rintro e w' ⟨rfl, rfl⟩)
    exact bodyPost_ret (v := canOutV 0 ⟨#[]⟩ 4) (by simp [results, Try.results19, go_sem, canOutV]) rfl ⟨rfl, (Below.refl _ _).alloc (Nat.le_refl _) _⟩
  · have H := implCanRead_mid t w (by omega) (by omega)
    rwa [show (if readB t = true then canOutV (be4 t) (tail5 t) 0 else canOutV 0 ⟨#[]⟩ 3) = canReadV t by simp [canReadV, ha, hb]] at H
end Go.Proofs.Ytdodjkocdaghaaa
