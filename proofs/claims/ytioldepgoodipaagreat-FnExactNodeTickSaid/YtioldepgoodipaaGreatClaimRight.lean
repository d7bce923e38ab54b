/- Whether a Claim is right: the model's. Nothing that was there is written. -/
import Derived.Test.YtioldepgoodipaaGreatClaimMath
import Derived.Test.YtioldepgoodipaaGreatNums
import Derived.Test.YtioldepgoodipaaGreatNameImpl
import Derived.BigQuiet
namespace Go.Proofs.YtioldepgoodipaaGreat
open Go.RowKit
set_option linter.unusedVariables false

/-- A Claim, as a value: its numbers behind that slice. -/
def clV (n : Nm) (ad st lf : Int) (v : Value) : Value := .agg #[.int .i64 n.u, .int .i64 n.m, .int .i64 n.i, .int .i64 n.f, .int .i64 n.c, .int .i64 n.s, .int .i64 n.y, .bool n.a, .int .i64 ad, .int .i64 st, .int .i64 lf, v]
/-- What stands ahead of place k of a rising row. -/
def pvI (l : List Int) (k : Nat) : Int := if k = 0 then -1 else numAt l (k - 1)
theorem riseB_step {l : List Int} {k : Nat} (h : k < l.length) : riseB (pvI l k) (l.drop k) = (inB 0 251 (numAt l k) && (decide (pvI l k < numAt l k) && riseB (pvI l (k + 1)) (l.drop (k + 1)))) := by
  have e : l.drop k = numAt l k :: l.drop (k + 1) := by
    rw [List.drop_eq_getElem_cons h]
    congr 1
    unfold numAt
    rw [List.getElem?_eq_getElem h]
    rfl
  rw [e]
  show (inB 0 251 (numAt l k) && (decide (pvI l k < numAt l k) && riseB (numAt l k) (l.drop (k + 1)))) = _
  have e2 : pvI l (k + 1) = numAt l k := by simp [pvI]
  rw [e2]

theorem l05Addr_any (x : Int) (w : World) :
    Calls Tryz.prog 152 #[.int .i64 x] w fun e w' => e = .returned (.bool (inB 0 251 x)) ∧ w = w' := by
  go_enter Tryz.func152, Tryz.ntmps152
  go_wp2_with fail
  refine (l02Is_any _ _ _ _).mono ?_
  rintro e w' ⟨rfl, rfl⟩
  go_wp2
  go_ret
  exact ⟨rfl, rfl⟩
set_option maxRecDepth 100000 in
set_option maxHeartbeats 4000000 in
theorem specClaimRight_any (n : Nm) (ad st lf : Int) (a : Option Addr) (cap : Nat) (l : List Int) (w : World) (h : NumsIn w a l) (hlen : l.length ≤ 1048576) :
    Calls Tryz.prog 78 #[clV n ad st lf (.slice a l.length cap)] w fun e w' => e = .returned (.bool (clB ⟨n, ad, st, lf, l⟩)) ∧ Below w.heap.size w w' := by
  have HN := fun W => Lib.hid (specNameOk_any n W)
  have HA := fun x W => Lib.hid (l05Addr_any x W)
  obtain ⟨R, hR⟩ : ∃ R, clB ⟨n, ad, st, lf, l⟩ = R := ⟨_, rfl⟩
  have HR := Lib.hid (show (okB n && (decide (l.length ≤ 252) && (riseB (-1) l && stateB ⟨n, ad, st, lf, l⟩))) = R from hR)
  rw [hR]
  clear hR
  rcases ho : okB n
  · rw [ho] at HR HN
    have HO := Lib.hid (show R = false from HR.out.symm.trans rfl)
    clear HR ho
    obtain ⟨n0, n1, n2, n3, n4, n5, n6, n7⟩ := n
    unfold clV
    unfold nmV at HN
    dsimp only at *
    go_enter Tryz.func78, Tryz.ntmps78
    go_wp2_with fail
    refine (HN _).out.mono ?_
    rintro e w1 ⟨rfl, h1⟩
    go_wp2
    go_ret
    exact ⟨by rw [HO.out]; rfl, ((Below.refl _ _).alloc (Nat.le_refl _) _).trans (h1.mono (by simp))⟩
  rw [ho] at HR HN
  have HS := Lib.hid (show stateB ⟨n, ad, st, lf, l⟩ = (if st = 1 then inB 0 251 ad && inB 1 250 lf else if st = 2 then inB 0 251 ad && decide (lf = 0) else if st = 3 then decide (ad = 254) && decide (lf = 0) else false) from rfl)
  have hI := h
  obtain ⟨n0, n1, n2, n3, n4, n5, n6, n7⟩ := n
  generalize stateB ⟨⟨n0, n1, n2, n3, n4, n5, n6, n7⟩, ad, st, lf, l⟩ = S at *
  clear ho
  unfold clV
  unfold nmV at HN
  dsimp only at *
  by_cases hbig : 252 < l.length
  · have HO := Lib.hid (show R = false by rw [← HR.out]; simp; omega)
    have hd : decide ((252 : Int) < (l.length : Int)) = true := decide_eq_true (by omega)
    clear HR
    go_enter Tryz.func78, Tryz.ntmps78
    go_wp2_with fail
    refine (HN _).out.mono ?_
    rintro e w1 ⟨rfl, h1⟩
    obtain ⟨c1, f1⟩ := bcell h1
    have z1 : w.heap.size < w1.heap.size := by have := h1.size; simp at this; omega
    go_wp2
    go_ret
    exact ⟨by rw [HO.out]; rfl, ((Below.refl _ _).alloc (Nat.le_refl _) _).trans (h1.mono (by simp))⟩
  have hd : decide ((252 : Int) < (l.length : Int)) = false := decide_eq_false (by omega)
  have HR2 := Lib.hid (show (riseB (-1) l && S) = R by rw [← HR.out]; simp [show l.length ≤ 252 by omega])
  clear HR hbig
  obtain ⟨N, hN⟩ : ∃ N, l.length = N := ⟨_, rfl⟩
  have HNl := Lib.hid hN
  rw [hN] at hlen hd ⊢
  clear hN h
  have HI := Lib.hid hI
  clear hI
  go_enter Tryz.func78, Tryz.ntmps78
  go_wp2_with fail
  refine (HN _).out.mono ?_
  rintro e w1 ⟨rfl, h1⟩
  have b1 : Below w.heap.size w w1 := ((Below.refl _ _).alloc (Nat.le_refl _) _).trans (h1.mono (by simp))
  have hR1 : w1.heap[w.heap.size]? = some (.cells #[.int .i64 n0, .int .i64 n1, .int .i64 n2, .int .i64 n3, .int .i64 n4, .int .i64 n5, .int .i64 n6, .bool n7, .int .i64 ad, .int .i64 st, .int .i64 lf, .slice a N cap] 40 (0, 0)) := (h1.block _ (by simp)).trans (heap_alloc_new w _)
  have HR1 := Lib.hid hR1
  have cS := cell_of_row w1 w.heap.size 11 _ _ (0, 0) hR1
  simp at cS
  clear hR1 h1 HN
  go_wp2_with fail
  clear cS
  go_loopw [3] (fun i wr => ∃ k : Nat, i = .int .i64 (k : Int) ∧ k ≤ N ∧ (riseB (pvI l k) (l.drop k) && S) = R ∧ wr.heap[w.heap.size]? = some (.cells #[.int .i64 n0, .int .i64 n1, .int .i64 n2, .int .i64 n3, .int .i64 n4, .int .i64 n5, .int .i64 n6, .bool n7, .int .i64 ad, .int .i64 st, .int .i64 lf, .slice a N cap] 40 (0, 0)) ∧ Below w.heap.size w wr) (fun i _ => N - (intOf i).toNat)
  case atStart => exact ⟨0, rfl, by omega, HR2.out, HR1.out, b1⟩
  case round =>
    obtain ⟨k, rfl, hk, hr, hh, hb⟩ := hrel
    have HH := Lib.hid hh
    have HRk := Lib.hid hr
    have cS := cell_of_row wr w.heap.size 11 _ _ (0, 0) hh
    simp at cS
    clear hr HR1 HR2 b1
    by_cases hkn : k < N
    · have hkl : k < l.length := by have := HNl.out; omega
      have HT := Lib.hid (riseB_step hkl)
      obtain ⟨b, o, rfl, hlt, hc⟩ := HI.out.at (by omega)
      have d0 := (hb.cell (p := ⟨b, _, none⟩) hlt).trans (hc k _ (numAt_some hkl))
      have hi1 : (0 : Int) ≤ (k : Int) := by omega
      have hi2 : (k : Int) < (N : Int) := by omega
      have HAx := fun W => Lib.hid (HA (numAt l k) W).out
      have lR : w.heap.size < wr.heap.size := heap_lt hh
      have lB : b < wr.heap.size := Nat.lt_of_lt_of_le hlt hb.size
      have hx : pvI l (k + 1) = numAt l k := by simp [pvI]
      rcases hin : inB 0 251 (numAt l k)
      · have HO := Lib.hid (show R = false by rw [← HRk.out, HT.out, hin]; rfl)
        rw [hin] at HAx
        generalize numAt l k = x at *
        clear HT hin hc HRk hh hx
        go_wp2_with fail
        refine wp_region_quiet (C := fun W => Below wr.heap.size wr W) (by kernel_rfl) (by kernel_rfl) (Below.refl _ _).drew ?_
        dsimp only
        go_big_quiet_want; go_big_quiet_op; first | go_big_quiet_on | (refine ⟨_, fun _ _ => rfl, ?_⟩; go_big_quiet_on)
        go_big_quiet_want; refine ⟨.slice (some ⟨b, o, none⟩) N cap, fun W hW => (by have y0 := (hW.cell (p := ⟨w.heap.size, _, none⟩) lR).trans cS; simp [Oper.quietAt, Oper.quietUpon, go_sem, y0]), ?_⟩; simp only [Act.put, List.setIfInBounds_toArray, List.set_cons_zero, List.set_cons_succ]; go_big_quiet_on
        go_big_quiet_want; go_big_quiet_op; first | go_big_quiet_on | (refine ⟨_, fun _ _ => rfl, ?_⟩; go_big_quiet_on)
        go_big_quiet_want; go_big_quiet_op; first | go_big_quiet_on | (refine ⟨_, fun _ _ => rfl, ?_⟩; go_big_quiet_on)
        go_big_quiet_want; refine ⟨.int .i64 x, fun W hW => (by have y0 := (hW.cell (p := ⟨b, _, none⟩) lB).trans d0; simp [Oper.quietAt, Oper.quietUpon, go_sem, y0]), ?_⟩; simp only [Act.put, List.setIfInBounds_toArray, List.set_cons_zero, List.set_cons_succ]; go_big_quiet_on
        go_big_quiet_want; go_big_quiet_op; refine ⟨_, fun W hW => quietSame hW (HAx W).out, ?_⟩; go_big_quiet_on
        go_big_quiet_want; go_big_quiet_op; first | go_big_quiet_on | (refine ⟨_, fun _ _ => rfl, ?_⟩; go_big_quiet_on)
        go_big_quiet_want; go_big_quiet_op; first | go_big_quiet_on | (refine ⟨_, fun _ _ => rfl, ?_⟩; go_big_quiet_on)
        first | go_big_quiet_skip | (go_big_quiet_want; go_big_quiet_op; first | go_big_quiet_on | (refine ⟨_, fun _ _ => rfl, ?_⟩; go_big_quiet_on))
        first | go_big_quiet_skip | (go_big_quiet_want; go_big_quiet_op; first | go_big_quiet_on | (refine ⟨_, fun _ _ => rfl, ?_⟩; go_big_quiet_on))
        first | go_big_quiet_skip | (go_big_quiet_want; go_big_quiet_op; first | go_big_quiet_on | (refine ⟨_, fun _ _ => rfl, ?_⟩; go_big_quiet_on))
        first | go_big_quiet_skip | (go_big_quiet_want; go_big_quiet_op; first | go_big_quiet_on | (refine ⟨_, fun _ _ => rfl, ?_⟩; go_big_quiet_on))
        first | go_big_quiet_skip | (go_big_quiet_want; refine ⟨.slice (some ⟨b, o, none⟩) N cap, fun W hW => (by have y0 := (hW.cell (p := ⟨w.heap.size, _, none⟩) lR).trans cS; simp [Oper.quietAt, Oper.quietUpon, go_sem, y0]), ?_⟩; simp only [Act.put, List.setIfInBounds_toArray, List.set_cons_zero, List.set_cons_succ]; go_big_quiet_on)
        first | go_big_quiet_skip | (go_big_quiet_want; go_big_quiet_op; first | go_big_quiet_on | (refine ⟨_, fun _ _ => rfl, ?_⟩; go_big_quiet_on))
        first | go_big_quiet_skip | (go_big_quiet_want; go_big_quiet_op; first | go_big_quiet_on | (refine ⟨_, fun _ _ => rfl, ?_⟩; go_big_quiet_on))
        first | go_big_quiet_skip | (go_big_quiet_want; go_big_quiet_op; first | go_big_quiet_on | (refine ⟨_, fun _ _ => rfl, ?_⟩; go_big_quiet_on))
        first | go_big_quiet_skip | (go_big_quiet_want; refine ⟨.int .i64 y, fun W hW => (by have y0 := (hW.cell (p := ⟨b, _, none⟩) lB).trans d1; simp [Oper.quietAt, Oper.quietUpon, go_sem, y0]), ?_⟩; simp only [Act.put, List.setIfInBounds_toArray, List.set_cons_zero, List.set_cons_succ]; go_big_quiet_on)
        first | go_big_quiet_skip | (go_big_quiet_want; go_big_quiet_op; first | go_big_quiet_on | (refine ⟨_, fun _ _ => rfl, ?_⟩; go_big_quiet_on))
        first | go_big_quiet_skip | (go_big_quiet_want; refine ⟨.slice (some ⟨b, o, none⟩) N cap, fun W hW => (by have y0 := (hW.cell (p := ⟨w.heap.size, _, none⟩) lR).trans cS; simp [Oper.quietAt, Oper.quietUpon, go_sem, y0]), ?_⟩; simp only [Act.put, List.setIfInBounds_toArray, List.set_cons_zero, List.set_cons_succ]; go_big_quiet_on)
        first | go_big_quiet_skip | (go_big_quiet_want; go_big_quiet_op; first | go_big_quiet_on | (refine ⟨_, fun _ _ => rfl, ?_⟩; go_big_quiet_on))
        first | go_big_quiet_skip | (go_big_quiet_want; go_big_quiet_op; first | go_big_quiet_on | (refine ⟨_, fun _ _ => rfl, ?_⟩; go_big_quiet_on))
        first | go_big_quiet_skip | (go_big_quiet_want; refine ⟨.int .i64 x, fun W hW => (by have y0 := (hW.cell (p := ⟨b, _, none⟩) lB).trans d0; simp [Oper.quietAt, Oper.quietUpon, go_sem, y0]), ?_⟩; simp only [Act.put, List.setIfInBounds_toArray, List.set_cons_zero, List.set_cons_succ]; go_big_quiet_on)
        first | go_big_quiet_skip | (go_big_quiet_want; go_big_quiet_op; first | go_big_quiet_on | (refine ⟨_, fun _ _ => rfl, ?_⟩; go_big_quiet_on))
        first | go_big_quiet_skip | (go_big_quiet_want; go_big_quiet_op; first | go_big_quiet_on | (refine ⟨_, fun _ _ => rfl, ?_⟩; go_big_quiet_on))
        go_big_quiet_want; go_big_quiet_op; first | go_big_quiet_on | (refine ⟨_, fun _ _ => rfl, ?_⟩; go_big_quiet_on)
        refine wpQuiet_nil ?_
        intro X hX
        go_wp2
        go_ret
        exact ⟨by rw [HO.out]; rfl, hb.trans (hX.mono hb.size)⟩
      rw [hin] at HAx
      rcases k with _ | m
      · have HNX := Lib.hid (show (riseB (pvI l (0 + 1)) (l.drop (0 + 1)) && S) = R by
          rw [← HRk.out, HT.out, hin]
          have := (inB_of hin).1
          simp [pvI, show (-1 : Int) < numAt l 0 by omega])
        have e0 : decide ((0 : Int) < ((0 : Nat) : Int)) = false := rfl
        rw [Nat.add_zero] at d0
        generalize numAt l 0 = x at *
        clear HT hin hc HRk hh hx
        go_wp2_with fail
        refine wp_region_quiet (C := fun W => Below wr.heap.size wr W) (by kernel_rfl) (by kernel_rfl) (Below.refl _ _).drew ?_
        dsimp only
        go_big_quiet_want; go_big_quiet_op; first | go_big_quiet_on | (refine ⟨_, fun _ _ => rfl, ?_⟩; go_big_quiet_on)
        go_big_quiet_want; refine ⟨.slice (some ⟨b, o, none⟩) N cap, fun W hW => (by have y0 := (hW.cell (p := ⟨w.heap.size, _, none⟩) lR).trans cS; simp [Oper.quietAt, Oper.quietUpon, go_sem, y0]), ?_⟩; simp only [Act.put, List.setIfInBounds_toArray, List.set_cons_zero, List.set_cons_succ]; go_big_quiet_on
        go_big_quiet_want; go_big_quiet_op; first | go_big_quiet_on | (refine ⟨_, fun _ _ => rfl, ?_⟩; go_big_quiet_on)
        go_big_quiet_want; go_big_quiet_op; first | go_big_quiet_on | (refine ⟨_, fun _ _ => rfl, ?_⟩; go_big_quiet_on)
        go_big_quiet_want; refine ⟨.int .i64 x, fun W hW => (by have y0 := (hW.cell (p := ⟨b, _, none⟩) lB).trans d0; simp [Oper.quietAt, Oper.quietUpon, go_sem, y0]), ?_⟩; simp only [Act.put, List.setIfInBounds_toArray, List.set_cons_zero, List.set_cons_succ]; go_big_quiet_on
        go_big_quiet_want; go_big_quiet_op; refine ⟨_, fun W hW => quietSame hW (HAx W).out, ?_⟩; go_big_quiet_on
        go_big_quiet_want; go_big_quiet_op; first | go_big_quiet_on | (refine ⟨_, fun _ _ => rfl, ?_⟩; go_big_quiet_on)
        go_big_quiet_want; go_big_quiet_op; first | go_big_quiet_on | (refine ⟨_, fun _ _ => rfl, ?_⟩; go_big_quiet_on)
        first | go_big_quiet_skip | (go_big_quiet_want; go_big_quiet_op; first | go_big_quiet_on | (refine ⟨_, fun _ _ => rfl, ?_⟩; go_big_quiet_on))
        first | go_big_quiet_skip | (go_big_quiet_want; go_big_quiet_op; first | go_big_quiet_on | (refine ⟨_, fun _ _ => rfl, ?_⟩; go_big_quiet_on))
        first | go_big_quiet_skip | (go_big_quiet_want; go_big_quiet_op; first | go_big_quiet_on | (refine ⟨_, fun _ _ => rfl, ?_⟩; go_big_quiet_on))
        first | go_big_quiet_skip | (go_big_quiet_want; go_big_quiet_op; first | go_big_quiet_on | (refine ⟨_, fun _ _ => rfl, ?_⟩; go_big_quiet_on))
        first | go_big_quiet_skip | (go_big_quiet_want; refine ⟨.slice (some ⟨b, o, none⟩) N cap, fun W hW => (by have y0 := (hW.cell (p := ⟨w.heap.size, _, none⟩) lR).trans cS; simp [Oper.quietAt, Oper.quietUpon, go_sem, y0]), ?_⟩; simp only [Act.put, List.setIfInBounds_toArray, List.set_cons_zero, List.set_cons_succ]; go_big_quiet_on)
        first | go_big_quiet_skip | (go_big_quiet_want; go_big_quiet_op; first | go_big_quiet_on | (refine ⟨_, fun _ _ => rfl, ?_⟩; go_big_quiet_on))
        first | go_big_quiet_skip | (go_big_quiet_want; go_big_quiet_op; first | go_big_quiet_on | (refine ⟨_, fun _ _ => rfl, ?_⟩; go_big_quiet_on))
        first | go_big_quiet_skip | (go_big_quiet_want; go_big_quiet_op; first | go_big_quiet_on | (refine ⟨_, fun _ _ => rfl, ?_⟩; go_big_quiet_on))
        first | go_big_quiet_skip | (go_big_quiet_want; refine ⟨.int .i64 y, fun W hW => (by have y0 := (hW.cell (p := ⟨b, _, none⟩) lB).trans d1; simp [Oper.quietAt, Oper.quietUpon, go_sem, y0]), ?_⟩; simp only [Act.put, List.setIfInBounds_toArray, List.set_cons_zero, List.set_cons_succ]; go_big_quiet_on)
        first | go_big_quiet_skip | (go_big_quiet_want; go_big_quiet_op; first | go_big_quiet_on | (refine ⟨_, fun _ _ => rfl, ?_⟩; go_big_quiet_on))
        first | go_big_quiet_skip | (go_big_quiet_want; refine ⟨.slice (some ⟨b, o, none⟩) N cap, fun W hW => (by have y0 := (hW.cell (p := ⟨w.heap.size, _, none⟩) lR).trans cS; simp [Oper.quietAt, Oper.quietUpon, go_sem, y0]), ?_⟩; simp only [Act.put, List.setIfInBounds_toArray, List.set_cons_zero, List.set_cons_succ]; go_big_quiet_on)
        first | go_big_quiet_skip | (go_big_quiet_want; go_big_quiet_op; first | go_big_quiet_on | (refine ⟨_, fun _ _ => rfl, ?_⟩; go_big_quiet_on))
        first | go_big_quiet_skip | (go_big_quiet_want; go_big_quiet_op; first | go_big_quiet_on | (refine ⟨_, fun _ _ => rfl, ?_⟩; go_big_quiet_on))
        first | go_big_quiet_skip | (go_big_quiet_want; refine ⟨.int .i64 x, fun W hW => (by have y0 := (hW.cell (p := ⟨b, _, none⟩) lB).trans d0; simp [Oper.quietAt, Oper.quietUpon, go_sem, y0]), ?_⟩; simp only [Act.put, List.setIfInBounds_toArray, List.set_cons_zero, List.set_cons_succ]; go_big_quiet_on)
        first | go_big_quiet_skip | (go_big_quiet_want; go_big_quiet_op; first | go_big_quiet_on | (refine ⟨_, fun _ _ => rfl, ?_⟩; go_big_quiet_on))
        first | go_big_quiet_skip | (go_big_quiet_want; go_big_quiet_op; first | go_big_quiet_on | (refine ⟨_, fun _ _ => rfl, ?_⟩; go_big_quiet_on))
        go_big_quiet_want; go_big_quiet_op; first | go_big_quiet_on | (refine ⟨_, fun _ _ => rfl, ?_⟩; go_big_quiet_on)
        refine wpQuiet_nil ?_
        intro X hX
        go_wp2
        go_roundw
        case rel => exact ⟨0 + 1, by go_num, by omega, HNX.out, (hX.block _ lR).trans HH.out, hb.trans (hX.mono hb.size)⟩
        case measure => simp [intOf]; omega
      · have d1 := (hb.cell (p := ⟨b, _, none⟩) hlt).trans (hc m _ (numAt_some (by omega)))
        have hp : pvI l (m + 1) = numAt l m := by simp [pvI]
        have e0 : decide ((0 : Int) < ((m + 1 : Nat) : Int)) = true := decide_eq_true (by omega)
        have e1 : (((m + 1 : Nat) : Int) - 1) = (m : Int) := by omega
        by_cases hlt' : numAt l m < numAt l (m + 1)
        · have HNX := Lib.hid (show (riseB (pvI l (m + 1 + 1)) (l.drop (m + 1 + 1)) && S) = R by
            rw [← HRk.out, HT.out, hin, hp]
            simp [hlt'])
          have e2 : decide (numAt l (m + 1) ≤ numAt l m) = false := decide_eq_false (by omega)
          generalize numAt l (m + 1) = x at *
          generalize numAt l m = y at *
          clear HT hin hc HRk hh hx hp hlt'
          go_wp2_with fail
          refine wp_region_quiet (C := fun W => Below wr.heap.size wr W) (by kernel_rfl) (by kernel_rfl) (Below.refl _ _).drew ?_
          dsimp only
          go_big_quiet_want; go_big_quiet_op; first | go_big_quiet_on | (refine ⟨_, fun _ _ => rfl, ?_⟩; go_big_quiet_on)
          go_big_quiet_want; refine ⟨.slice (some ⟨b, o, none⟩) N cap, fun W hW => (by have y0 := (hW.cell (p := ⟨w.heap.size, _, none⟩) lR).trans cS; simp [Oper.quietAt, Oper.quietUpon, go_sem, y0]), ?_⟩; simp only [Act.put, List.setIfInBounds_toArray, List.set_cons_zero, List.set_cons_succ]; go_big_quiet_on
          go_big_quiet_want; go_big_quiet_op; first | go_big_quiet_on | (refine ⟨_, fun _ _ => rfl, ?_⟩; go_big_quiet_on)
          go_big_quiet_want; go_big_quiet_op; first | go_big_quiet_on | (refine ⟨_, fun _ _ => rfl, ?_⟩; go_big_quiet_on)
          go_big_quiet_want; refine ⟨.int .i64 x, fun W hW => (by have y0 := (hW.cell (p := ⟨b, _, none⟩) lB).trans d0; simp [Oper.quietAt, Oper.quietUpon, go_sem, y0]), ?_⟩; simp only [Act.put, List.setIfInBounds_toArray, List.set_cons_zero, List.set_cons_succ]; go_big_quiet_on
          go_big_quiet_want; go_big_quiet_op; refine ⟨_, fun W hW => quietSame hW (HAx W).out, ?_⟩; go_big_quiet_on
          go_big_quiet_want; go_big_quiet_op; first | go_big_quiet_on | (refine ⟨_, fun _ _ => rfl, ?_⟩; go_big_quiet_on)
          go_big_quiet_want; go_big_quiet_op; first | go_big_quiet_on | (refine ⟨_, fun _ _ => rfl, ?_⟩; go_big_quiet_on)
          first | go_big_quiet_skip | (go_big_quiet_want; go_big_quiet_op; first | go_big_quiet_on | (refine ⟨_, fun _ _ => rfl, ?_⟩; go_big_quiet_on))
          first | go_big_quiet_skip | (go_big_quiet_want; go_big_quiet_op; first | go_big_quiet_on | (refine ⟨_, fun _ _ => rfl, ?_⟩; go_big_quiet_on))
          first | go_big_quiet_skip | (go_big_quiet_want; go_big_quiet_op; first | go_big_quiet_on | (refine ⟨_, fun _ _ => rfl, ?_⟩; go_big_quiet_on))
          first | go_big_quiet_skip | (go_big_quiet_want; go_big_quiet_op; first | go_big_quiet_on | (refine ⟨_, fun _ _ => rfl, ?_⟩; go_big_quiet_on))
          first | go_big_quiet_skip | (go_big_quiet_want; refine ⟨.slice (some ⟨b, o, none⟩) N cap, fun W hW => (by have y0 := (hW.cell (p := ⟨w.heap.size, _, none⟩) lR).trans cS; simp [Oper.quietAt, Oper.quietUpon, go_sem, y0]), ?_⟩; simp only [Act.put, List.setIfInBounds_toArray, List.set_cons_zero, List.set_cons_succ]; go_big_quiet_on)
          first | go_big_quiet_skip | (go_big_quiet_want; go_big_quiet_op; first | go_big_quiet_on | (refine ⟨_, fun _ _ => rfl, ?_⟩; go_big_quiet_on))
          first | go_big_quiet_skip | (go_big_quiet_want; go_big_quiet_op; first | go_big_quiet_on | (refine ⟨_, fun _ _ => rfl, ?_⟩; go_big_quiet_on))
          first | go_big_quiet_skip | (go_big_quiet_want; go_big_quiet_op; first | go_big_quiet_on | (refine ⟨_, fun _ _ => rfl, ?_⟩; go_big_quiet_on))
          first | go_big_quiet_skip | (go_big_quiet_want; refine ⟨.int .i64 y, fun W hW => (by have y0 := (hW.cell (p := ⟨b, _, none⟩) lB).trans d1; simp [Oper.quietAt, Oper.quietUpon, go_sem, y0]), ?_⟩; simp only [Act.put, List.setIfInBounds_toArray, List.set_cons_zero, List.set_cons_succ]; go_big_quiet_on)
          first | go_big_quiet_skip | (go_big_quiet_want; go_big_quiet_op; first | go_big_quiet_on | (refine ⟨_, fun _ _ => rfl, ?_⟩; go_big_quiet_on))
          first | go_big_quiet_skip | (go_big_quiet_want; refine ⟨.slice (some ⟨b, o, none⟩) N cap, fun W hW => (by have y0 := (hW.cell (p := ⟨w.heap.size, _, none⟩) lR).trans cS; simp [Oper.quietAt, Oper.quietUpon, go_sem, y0]), ?_⟩; simp only [Act.put, List.setIfInBounds_toArray, List.set_cons_zero, List.set_cons_succ]; go_big_quiet_on)
          first | go_big_quiet_skip | (go_big_quiet_want; go_big_quiet_op; first | go_big_quiet_on | (refine ⟨_, fun _ _ => rfl, ?_⟩; go_big_quiet_on))
          first | go_big_quiet_skip | (go_big_quiet_want; go_big_quiet_op; first | go_big_quiet_on | (refine ⟨_, fun _ _ => rfl, ?_⟩; go_big_quiet_on))
          first | go_big_quiet_skip | (go_big_quiet_want; refine ⟨.int .i64 x, fun W hW => (by have y0 := (hW.cell (p := ⟨b, _, none⟩) lB).trans d0; simp [Oper.quietAt, Oper.quietUpon, go_sem, y0]), ?_⟩; simp only [Act.put, List.setIfInBounds_toArray, List.set_cons_zero, List.set_cons_succ]; go_big_quiet_on)
          first | go_big_quiet_skip | (go_big_quiet_want; go_big_quiet_op; first | go_big_quiet_on | (refine ⟨_, fun _ _ => rfl, ?_⟩; go_big_quiet_on))
          first | go_big_quiet_skip | (go_big_quiet_want; go_big_quiet_op; first | go_big_quiet_on | (refine ⟨_, fun _ _ => rfl, ?_⟩; go_big_quiet_on))
          go_big_quiet_want; go_big_quiet_op; first | go_big_quiet_on | (refine ⟨_, fun _ _ => rfl, ?_⟩; go_big_quiet_on)
          refine wpQuiet_nil ?_
          intro X hX
          go_wp2
          go_roundw
          case rel => exact ⟨m + 1 + 1, by go_num, by omega, HNX.out, (hX.block _ lR).trans HH.out, hb.trans (hX.mono hb.size)⟩
          case measure => simp [intOf]; omega
        · have HO := Lib.hid (show R = false by rw [← HRk.out, HT.out, hin, hp]; simp [hlt'])
          have e2 : decide (numAt l (m + 1) ≤ numAt l m) = true := decide_eq_true (by omega)
          generalize numAt l (m + 1) = x at *
          generalize numAt l m = y at *
          clear HT hin hc HRk hh hx hp hlt'
          go_wp2_with fail
          refine wp_region_quiet (C := fun W => Below wr.heap.size wr W) (by kernel_rfl) (by kernel_rfl) (Below.refl _ _).drew ?_
          dsimp only
          go_big_quiet_want; go_big_quiet_op; first | go_big_quiet_on | (refine ⟨_, fun _ _ => rfl, ?_⟩; go_big_quiet_on)
          go_big_quiet_want; refine ⟨.slice (some ⟨b, o, none⟩) N cap, fun W hW => (by have y0 := (hW.cell (p := ⟨w.heap.size, _, none⟩) lR).trans cS; simp [Oper.quietAt, Oper.quietUpon, go_sem, y0]), ?_⟩; simp only [Act.put, List.setIfInBounds_toArray, List.set_cons_zero, List.set_cons_succ]; go_big_quiet_on
          go_big_quiet_want; go_big_quiet_op; first | go_big_quiet_on | (refine ⟨_, fun _ _ => rfl, ?_⟩; go_big_quiet_on)
          go_big_quiet_want; go_big_quiet_op; first | go_big_quiet_on | (refine ⟨_, fun _ _ => rfl, ?_⟩; go_big_quiet_on)
          go_big_quiet_want; refine ⟨.int .i64 x, fun W hW => (by have y0 := (hW.cell (p := ⟨b, _, none⟩) lB).trans d0; simp [Oper.quietAt, Oper.quietUpon, go_sem, y0]), ?_⟩; simp only [Act.put, List.setIfInBounds_toArray, List.set_cons_zero, List.set_cons_succ]; go_big_quiet_on
          go_big_quiet_want; go_big_quiet_op; refine ⟨_, fun W hW => quietSame hW (HAx W).out, ?_⟩; go_big_quiet_on
          go_big_quiet_want; go_big_quiet_op; first | go_big_quiet_on | (refine ⟨_, fun _ _ => rfl, ?_⟩; go_big_quiet_on)
          go_big_quiet_want; go_big_quiet_op; first | go_big_quiet_on | (refine ⟨_, fun _ _ => rfl, ?_⟩; go_big_quiet_on)
          first | go_big_quiet_skip | (go_big_quiet_want; go_big_quiet_op; first | go_big_quiet_on | (refine ⟨_, fun _ _ => rfl, ?_⟩; go_big_quiet_on))
          first | go_big_quiet_skip | (go_big_quiet_want; go_big_quiet_op; first | go_big_quiet_on | (refine ⟨_, fun _ _ => rfl, ?_⟩; go_big_quiet_on))
          first | go_big_quiet_skip | (go_big_quiet_want; go_big_quiet_op; first | go_big_quiet_on | (refine ⟨_, fun _ _ => rfl, ?_⟩; go_big_quiet_on))
          first | go_big_quiet_skip | (go_big_quiet_want; go_big_quiet_op; first | go_big_quiet_on | (refine ⟨_, fun _ _ => rfl, ?_⟩; go_big_quiet_on))
          first | go_big_quiet_skip | (go_big_quiet_want; refine ⟨.slice (some ⟨b, o, none⟩) N cap, fun W hW => (by have y0 := (hW.cell (p := ⟨w.heap.size, _, none⟩) lR).trans cS; simp [Oper.quietAt, Oper.quietUpon, go_sem, y0]), ?_⟩; simp only [Act.put, List.setIfInBounds_toArray, List.set_cons_zero, List.set_cons_succ]; go_big_quiet_on)
          first | go_big_quiet_skip | (go_big_quiet_want; go_big_quiet_op; first | go_big_quiet_on | (refine ⟨_, fun _ _ => rfl, ?_⟩; go_big_quiet_on))
          first | go_big_quiet_skip | (go_big_quiet_want; go_big_quiet_op; first | go_big_quiet_on | (refine ⟨_, fun _ _ => rfl, ?_⟩; go_big_quiet_on))
          first | go_big_quiet_skip | (go_big_quiet_want; go_big_quiet_op; first | go_big_quiet_on | (refine ⟨_, fun _ _ => rfl, ?_⟩; go_big_quiet_on))
          first | go_big_quiet_skip | (go_big_quiet_want; refine ⟨.int .i64 y, fun W hW => (by have y0 := (hW.cell (p := ⟨b, _, none⟩) lB).trans d1; simp [Oper.quietAt, Oper.quietUpon, go_sem, y0]), ?_⟩; simp only [Act.put, List.setIfInBounds_toArray, List.set_cons_zero, List.set_cons_succ]; go_big_quiet_on)
          first | go_big_quiet_skip | (go_big_quiet_want; go_big_quiet_op; first | go_big_quiet_on | (refine ⟨_, fun _ _ => rfl, ?_⟩; go_big_quiet_on))
          first | go_big_quiet_skip | (go_big_quiet_want; refine ⟨.slice (some ⟨b, o, none⟩) N cap, fun W hW => (by have y0 := (hW.cell (p := ⟨w.heap.size, _, none⟩) lR).trans cS; simp [Oper.quietAt, Oper.quietUpon, go_sem, y0]), ?_⟩; simp only [Act.put, List.setIfInBounds_toArray, List.set_cons_zero, List.set_cons_succ]; go_big_quiet_on)
          first | go_big_quiet_skip | (go_big_quiet_want; go_big_quiet_op; first | go_big_quiet_on | (refine ⟨_, fun _ _ => rfl, ?_⟩; go_big_quiet_on))
          first | go_big_quiet_skip | (go_big_quiet_want; go_big_quiet_op; first | go_big_quiet_on | (refine ⟨_, fun _ _ => rfl, ?_⟩; go_big_quiet_on))
          first | go_big_quiet_skip | (go_big_quiet_want; refine ⟨.int .i64 x, fun W hW => (by have y0 := (hW.cell (p := ⟨b, _, none⟩) lB).trans d0; simp [Oper.quietAt, Oper.quietUpon, go_sem, y0]), ?_⟩; simp only [Act.put, List.setIfInBounds_toArray, List.set_cons_zero, List.set_cons_succ]; go_big_quiet_on)
          first | go_big_quiet_skip | (go_big_quiet_want; go_big_quiet_op; first | go_big_quiet_on | (refine ⟨_, fun _ _ => rfl, ?_⟩; go_big_quiet_on))
          first | go_big_quiet_skip | (go_big_quiet_want; go_big_quiet_op; first | go_big_quiet_on | (refine ⟨_, fun _ _ => rfl, ?_⟩; go_big_quiet_on))
          go_big_quiet_want; go_big_quiet_op; first | go_big_quiet_on | (refine ⟨_, fun _ _ => rfl, ?_⟩; go_big_quiet_on)
          refine wpQuiet_nil ?_
          intro X hX
          go_wp2
          go_ret
          exact ⟨by rw [HO.out]; rfl, hb.trans (hX.mono hb.size)⟩
    · have hRS : R = S := by
        rw [← HRk.out, List.drop_eq_nil_of_le (by have := HNl.out; omega)]
        rfl
      have cA := cell_of_row wr w.heap.size 8 _ _ (0, 0) hh
      have cT := cell_of_row wr w.heap.size 9 _ _ (0, 0) hh
      have cL := cell_of_row wr w.heap.size 10 _ _ (0, 0) hh
      simp at cA cT cL
      have HAd := fun W => Lib.hid (HA ad W).out
      have HLf := fun W => Lib.hid (l02Is_any lf 1 250 W)
      have hkd : decide ((k : Int) < (N : Int)) = false := decide_eq_false (by omega)
      clear HH HRk hh HA HI
      by_cases s1 : st = 1
      · have hS := HS.out
        rw [if_pos s1] at hS
        have hs1 : (st == 1) = true := by simpa using s1
        rcases ha : inB 0 251 ad
        · have HO := Lib.hid (show R = false by rw [hRS, hS, ha]; rfl)
          rw [ha] at HAd
          clear hS hRS HS ha s1
          go_wp2_with (go_at_call 152; refine (HAd _).out.mono ?_; rintro e w' ⟨rfl, rfl⟩)
          go_ret
          exact ⟨by rw [HO.out]; rfl, hb⟩
        · have HO := Lib.hid (show R = inB 1 250 lf by rw [hRS, hS, ha]; rfl)
          rw [ha] at HAd
          generalize inB 1 250 lf = q at *
          clear hS hRS HS ha s1
          go_wp2_with (first | (go_at_call 152; refine (HAd _).out.mono ?_; rintro e w' ⟨rfl, rfl⟩) | (go_at_call 82; refine (HLf _).out.mono ?_; rintro e w' ⟨rfl, rfl⟩))
          go_ret
          exact ⟨by rw [HO.out]; rfl, hb⟩
      have hs1 : (st == 1) = false := by simpa using s1
      by_cases s2 : st = 2
      · have hS := HS.out
        rw [if_neg s1, if_pos s2] at hS
        have hs2 : (st == 2) = true := by simpa using s2
        rcases ha : inB 0 251 ad
        · have HO := Lib.hid (show R = false by rw [hRS, hS, ha]; rfl)
          rw [ha] at HAd
          clear hS hRS HS ha s1 s2
          go_wp2_with (go_at_call 152; refine (HAd _).out.mono ?_; rintro e w' ⟨rfl, rfl⟩)
          go_ret
          exact ⟨by rw [HO.out]; rfl, hb⟩
        · have HO := Lib.hid (show R = (lf == 0) by rw [hRS, hS, ha, Bool.true_and]; exact (Bool.beq_eq_decide_eq lf 0).symm)
          rw [ha] at HAd
          clear hS hRS HS ha s1 s2
          go_wp2_with (go_at_call 152; refine (HAd _).out.mono ?_; rintro e w' ⟨rfl, rfl⟩)
          go_ret
          exact ⟨by rw [HO.out]; rfl, hb⟩
      have hs2 : (st == 2) = false := by simpa using s2
      by_cases s3 : st = 3
      · have hS := HS.out
        rw [if_neg s1, if_neg s2, if_pos s3] at hS
        have hs3 : (st == 3) = true := by simpa using s3
        by_cases ha : ad = 254
        · have HO := Lib.hid (show R = (lf == 0) by rw [hRS, hS, decide_eq_true ha, Bool.true_and]; exact (Bool.beq_eq_decide_eq lf 0).symm)
          have hs4 : (ad == 254) = true := by simpa using ha
          clear hS hRS HS ha s1 s2 s3
          go_wp2_with fail
          go_ret
          exact ⟨by rw [HO.out]; rfl, hb⟩
        · have HO := Lib.hid (show R = false by rw [hRS, hS, decide_eq_false ha]; rfl)
          have hs4 : (ad == 254) = false := by simpa using ha
          clear hS hRS HS ha s1 s2 s3
          go_wp2_with fail
          go_ret
          exact ⟨by rw [HO.out]; rfl, hb⟩
      · have hS := HS.out
        rw [if_neg s1, if_neg s2, if_neg s3] at hS
        have hs3 : (st == 3) = false := by simpa using s3
        have HO := Lib.hid (show R = false by rw [hRS, hS])
        clear hS hRS HS s1 s2 s3
        go_wp2_with fail
        go_ret
        exact ⟨by rw [HO.out]; rfl, hb⟩
end Go.Proofs.YtioldepgoodipaaGreat
