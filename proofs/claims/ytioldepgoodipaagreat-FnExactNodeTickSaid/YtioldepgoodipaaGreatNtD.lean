/- Several texts in one, each with its own head: what is proved, and of what, stands there. -/
import Derived.Test.YtioldepgoodipaaGreatNtC
import Derived.Test.YtioldepgoodipaaGreatDvs
import Derived.Test.YtioldepgoodipaaGreatNtB
import Derived.Test.YtioldepgoodipaaGreatNameLess2
import Derived.Test.YtioldepgoodipaaGreatClaimRight
/- What a Claim becomes that hears another one's: the model's and the program's. Nothing that was there is written. -/
namespace Go.Proofs.YtioldepgoodipaaGreat
open Go.RowKit
set_option linter.unusedVariables false

/-- Two names are one. -/
def sameN (n m : Nm) : Bool := decide (n.u = m.u ∧ n.m = m.m ∧ n.i = m.i ∧ n.f = m.f ∧ n.c = m.c ∧ n.s = m.s ∧ n.y = m.y ∧ n.a = m.a)
/-- What is answered of what is heard. -/
def hearO (c : Cl) (s : Int) (m : Nm) : Cl × Bool × Int := if clB c = true ∧ okB m = true ∧ inB 0 255 s = true then ((hearC c s m (sameN c.n m)).1, (hearC c s m (sameN c.n m)).2, 0) else (zeroCl, false, 1)
section
variable {n : Nm} {ad st lf : Int} {l : List Int} {s : Int} {m : Nm}
end
end Go.Proofs.YtioldepgoodipaaGreat
/- Lists of Devices: whether one is right, who is there once one is heard, a tick later. -/
namespace Go.Proofs.YtioldepgoodipaaGreat
open Go.RowKit
set_option linter.unusedVariables false

/-- A Device is right by itself. -/
def dvOkB (d : Dv) : Bool := okB d.n && (inB 0 251 d.ad && inB 0 600 d.g)
theorem dvOkB_of {d : Dv} (h : dvOkB d = true) : okB d.n = true ∧ (0 ≤ d.ad ∧ d.ad ≤ 251) ∧ (0 ≤ d.g ∧ d.g ≤ 600) := by
  unfold dvOkB at h
  simp only [Bool.and_eq_true] at h
  exact ⟨h.1, inB_of h.2.1, inB_of h.2.2⟩
/-- It may stand behind that one. -/
def behindB (a d : Dv) : Bool := nmLessB a.n d.n && !(a.ad == d.ad)
/-- It may stand in its place. -/
def dvsAt (l : List Dv) (i : Nat) : Bool := dvOkB (dvAt l i) && allR (fun k => behindB (dvAt l k) (dvAt l i)) i
def dvsB (l : List Dv) : Bool := decide (l.length ≤ 8) && allR (dvsAt l) l.length
theorem dvsB_of {l : List Dv} (k : dvsB l = true) : l.length ≤ 8 ∧ ∀ i, i < l.length → dvsAt l i = true := by
  unfold dvsB at k
  simp only [Bool.and_eq_true, decide_eq_true_eq] at k
  exact ⟨k.1, allR_of k.2⟩
theorem dvsB_long {l : List Dv} (k : 8 < l.length) : dvsB l = false := by
  unfold dvsB
  rw [decide_eq_false (by omega), Bool.false_and]
theorem dvsB_no {l : List Dv} {i : Nat} (hi : i < l.length) (k : dvsAt l i = false) : dvsB l = false := by
  unfold dvsB
  rw [allR_no hi k, Bool.and_false]
theorem dvsB_yes {l : List Dv} (h8 : l.length ≤ 8) (h : ∀ i, i < l.length → dvsAt l i = true) : dvsB l = true := by
  unfold dvsB
  rw [allR_yes h, decide_eq_true h8]
  rfl
theorem dvsAt_of {l : List Dv} {i : Nat} (h : dvsAt l i = true) : dvOkB (dvAt l i) = true ∧ ∀ k, k < i → behindB (dvAt l k) (dvAt l i) = true := by
  unfold dvsAt at h
  simp only [Bool.and_eq_true] at h
  exact ⟨h.1, allR_of h.2⟩
theorem dvsAt_mk {l : List Dv} {i : Nat} (h : dvOkB (dvAt l i) = true) (h2 : ∀ k, k < i → behindB (dvAt l k) (dvAt l i) = true) : dvsAt l i = true := by
  unfold dvsAt
  rw [h, allR_yes h2]
  rfl
theorem less_of {a b : Nm} (h : nmLessB a b = true) : nmN a < nmN b := by
  unfold nmLessB at h
  simp only [Bool.and_eq_true, decide_eq_true_eq] at h
  exact h.2.2
theorem less_mk {a b : Nm} (ha : okB a = true) (hb : okB b = true) (h : nmN a < nmN b) : nmLessB a b = true := by
  unfold nmLessB
  rw [ha, hb, decide_eq_true h]
  rfl
theorem behindB_of {a d : Dv} (h : behindB a d = true) : nmN a.n < nmN d.n ∧ a.ad ≠ d.ad := by
  unfold behindB at h
  simp only [Bool.and_eq_true, Bool.not_eq_true', beq_eq_false_iff_ne] at h
  exact ⟨less_of h.1, h.2⟩
/-- The model's way: the one ahead is less, and no address ahead is alike. -/
def spAt (l : List Dv) (i : Nat) : Bool := dvOkB (dvAt l i) && ((decide (i = 0) || nmLessB (dvAt l (i - 1)).n (dvAt l i).n) && allR (fun k => !((dvAt l k).ad == (dvAt l i).ad)) i)
theorem spAt_same {l : List Dv} {i : Nat} (h : ∀ k, k < i → dvsAt l k = true) : spAt l i = dvsAt l i := by
  cases hq : dvsAt l i with
  | true =>
    obtain ⟨h1, h2⟩ := dvsAt_of hq
    unfold spAt
    rw [h1, allR_yes (fun k hk => by
      have := (behindB_of (h2 k hk)).2
      simpa using this)]
    rcases Nat.eq_zero_or_pos i with rfl | hi
    · rfl
    · have := h2 (i - 1) (by omega)
      unfold behindB at this
      rw [Bool.and_eq_true] at this
      rw [this.1]
      simp
  | false =>
    cases hs : spAt l i with
    | false => rfl
    | true =>
      unfold spAt at hs
      simp only [Bool.and_eq_true, Bool.or_eq_true, decide_eq_true_eq] at hs
      have hc : dvsAt l i = true := dvsAt_mk hs.1 (fun k hk => by
        have ha := allR_of hs.2.2 k hk
        have hl : nmLessB (dvAt l (i - 1)).n (dvAt l i).n = true := by
          rcases hs.2.1 with h0 | h0
          · omega
          · exact h0
        have hlt : nmN (dvAt l k).n < nmN (dvAt l i).n := by
          rcases Nat.eq_or_lt_of_le (Nat.le_sub_one_of_lt hk) with rfl | hk2
          · exact less_of hl
          · have h3 := (behindB_of ((dvsAt_of (h (i - 1) (by omega))).2 k hk2)).1
            have := less_of hl
            omega
        unfold behindB
        rw [ha, less_mk (dvOkB_of (dvsAt_of (h k hk)).1).1 (dvOkB_of hs.1).1 hlt]
        rfl)
      rw [hc] at hq
      cases hq
/-- Who stays when one is heard. -/
def staysB (ad : Int) (n : Nm) (d : Dv) : Bool := !(sameN d.n n) && !(d.ad == ad)
def keptD (l : List Dv) (ad : Int) (n : Nm) : List Dv := l.filter (staysB ad n)
/-- How many stand ahead of n. -/
def aheadD (l : List Dv) (n : Nm) : Nat := (l.takeWhile fun d => nmLessB d.n n).length
def hearD (l : List Dv) (ad : Int) (n : Nm) : List Dv :=
  if ad ≤ 251 ∧ (keptD l ad n).length < 8 then (keptD l ad n).take (aheadD (keptD l ad n) n) ++ ⟨n, ad, 0⟩ :: (keptD l ad n).drop (aheadD (keptD l ad n) n) else keptD l ad n
def hearV (l : List Dv) (ad : Int) (n : Nm) : List Dv :=
  if 400 < l.length then [] else if (dvsB l && (okB n && inB 0 255 ad)) = true then hearD l ad n else l
def tickD (l : List Dv) : List Dv := (l.filter fun d => decide (d.g < 600)).map fun d => ⟨d.n, d.ad, d.g + 1⟩
def tickDV (l : List Dv) : List Dv := if dvsB l = true then tickD l else []
def addrD (l : List Dv) (n : Nm) : Int := match l.find? (fun d => sameN d.n n) with
  | some d => d.ad
  | none => -1
def addrV (l : List Dv) (n : Nm) : Int := if dvsB l = true then addrD l n else -1
end Go.Proofs.YtioldepgoodipaaGreat
/- Whether Devices are right: the program's and the model's. Nothing that was there is written. -/
namespace Go.Proofs.YtioldepgoodipaaGreat
open Go.RowKit
set_option linter.unusedVariables false

theorem dvAt_take {l : List Dv} {i k : Nat} (h : k < i) : dvAt (l.take i) k = dvAt l k := by
  unfold dvAt
  rw [List.getElem?_take, if_pos h]
theorem allR_same {f g : Nat → Bool} {n : Nat} (h : ∀ j, j < n → f j = g j) : allR f n = allR g n := by
  unfold allR
  rw [Bool.eq_iff_iff]
  simp only [List.all_eq_true, List.mem_range]
  exact ⟨fun k j hj => by rw [← h j hj]; exact k j hj, fun k j hj => by rw [h j hj]; exact k j hj⟩
/-- The first eight cells are the Name's. -/
theorem dv_nm (n0 n1 n2 n3 n4 n5 n6 : Int) (n7 : Bool) (ad g : Int) (j : Nat) (v : Value) (h : ([.int .i64 n0, .int .i64 n1, .int .i64 n2, .int .i64 n3, .int .i64 n4, .int .i64 n5, .int .i64 n6, .bool n7] : List Value)[j]? = some v) : ([.int .i64 n0, .int .i64 n1, .int .i64 n2, .int .i64 n3, .int .i64 n4, .int .i64 n5, .int .i64 n6, .bool n7, .int .i64 ad, .int .i64 g] : List Value)[j]? = some v := by
  rcases j with _ | _ | _ | _ | _ | _ | _ | _ | j
  all_goals first | exact h | simp at h
set_option maxRecDepth 100000 in
set_option maxHeartbeats 8000000 in
theorem deviceRight_any (x : Dv) (w : World) :
    Calls Tryz.prog 192 #[.agg (dvL x).toArray] w fun e w' => e = .returned (.bool (dvOkB x)) ∧ Below w.heap.size w w' := by
  obtain ⟨⟨n0, n1, n2, n3, n4, n5, n6, n7⟩, ad, g⟩ := x
  have HN := fun W => Lib.hid (implNameOk_any ⟨n0, n1, n2, n3, n4, n5, n6, n7⟩ W)
  obtain ⟨V, hV⟩ : ∃ V, dvOkB ⟨⟨n0, n1, n2, n3, n4, n5, n6, n7⟩, ad, g⟩ = V := ⟨_, rfl⟩
  have HV := Lib.hid (show (okB ⟨n0, n1, n2, n3, n4, n5, n6, n7⟩ && (inB 0 251 ad && inB 0 600 g)) = V from hV)
  rw [hV]
  unfold dvL
  unfold nmV at HN
  dsimp only at *
  generalize okB ⟨n0, n1, n2, n3, n4, n5, n6, n7⟩ = O at *
  clear hV
  go_enter Tryz.func192, Tryz.ntmps192
  go_wp2_with (first
    | ((with_reducible refine @id (wpList _ _ _ (Oper.mk _ (Op.box 162 (.tmp 0)) _ _ _ _ :: _) _ _) ?_); refine wpList_box_h rfl 162 (.tmp 0) rfl #[.int .i64 n0, .int .i64 n1, .int .i64 n2, .int .i64 n3, .int .i64 n4, .int .i64 n5, .int .i64 n6, .bool n7, .int .i64 ad, .int .i64 g] rfl ?_; intro w1 R1 e1 g1 b1; have HL1 := Lib.hid (show Lg w w1 [(R1, #[.int .i64 n0, .int .i64 n1, .int .i64 n2, .int .i64 n3, .int .i64 n4, .int .i64 n5, .int .i64 n6, .bool n7, .int .i64 ad, .int .i64 g], 162)] [] from (Lg.first w).box e1 g1 b1); clear g1 b1 e1)
    | ((with_reducible refine @id (wpList _ _ _ (Oper.mk _ (Op.load 38 (.tmp 3)) _ _ _ _ :: _) _ _) ?_); refine wpList_load_at rfl 38 (.tmp 3) rfl (R1) 0 rfl 162 #[.int .i64 n0, .int .i64 n1, .int .i64 n2, .int .i64 n3, .int .i64 n4, .int .i64 n5, .int .i64 n6, .bool n7, .int .i64 ad, .int .i64 g] (0, 0) (HL1.out.get (.head _)) [.int .i64 n0, .int .i64 n1, .int .i64 n2, .int .i64 n3, .int .i64 n4, .int .i64 n5, .int .i64 n6, .bool n7] rfl _ Tryz.underlying38 rfl (by kernel_rfl) ?_))
  refine ((HN _).out).mono ?_
  rintro e w2 ⟨rfl, h⟩
  have HL2 := Lib.hid (show Lg w w2 [(R1, #[.int .i64 n0, .int .i64 n1, .int .i64 n2, .int .i64 n3, .int .i64 n4, .int .i64 n5, .int .i64 n6, .bool n7, .int .i64 ad, .int .i64 g], 162)] [] from HL1.out.kept h)
  clear h
  rcases O with _ | _
  · skip
    go_wp2_with fail
    go_ret
    exact ⟨by rw [← HV.out]; rfl, HL2.out.below⟩
  go_wp2_with (first
    | ((with_reducible refine @id (wpList _ _ _ (Oper.mk _ (Op.load 2 (.tmp 7)) _ _ _ _ :: _) _ _) ?_); refine wpList_load_one (by kernel_rfl) 2 (.tmp 7) rfl (R1) 8 rfl 162 #[.int .i64 n0, .int .i64 n1, .int .i64 n2, .int .i64 n3, .int .i64 n4, .int .i64 n5, .int .i64 n6, .bool n7, .int .i64 ad, .int .i64 g] (0, 0) (HL2.out.get (.head _)) (.int .i64 ad) rfl _ Tryz.underlying2 rfl (by kernel_rfl) ?_))
  refine (from0_any ad 251 _).mono ?_
  rcases c1 : inB 0 251 ad
  · rintro e w' ⟨rfl, rfl⟩
    rw [c1] at HV
    go_wp2_with fail
    go_ret
    exact ⟨by rw [← HV.out]; rfl, HL2.out.below⟩
  rintro e w' ⟨rfl, rfl⟩
  go_wp2_with (first
    | ((with_reducible refine @id (wpList _ _ _ (Oper.mk _ (Op.load 2 (.tmp 12)) _ _ _ _ :: _) _ _) ?_); refine wpList_load_one (by kernel_rfl) 2 (.tmp 12) rfl (R1) 9 rfl 162 #[.int .i64 n0, .int .i64 n1, .int .i64 n2, .int .i64 n3, .int .i64 n4, .int .i64 n5, .int .i64 n6, .bool n7, .int .i64 ad, .int .i64 g] (0, 0) (HL2.out.get (.head _)) (.int .i64 g) rfl _ Tryz.underlying2 rfl (by kernel_rfl) ?_))
  refine (from0_any g 600 _).mono ?_
  rintro e w' ⟨rfl, rfl⟩
  rw [c1] at HV
  go_wp2_with fail
  go_ret
  exact ⟨by rw [← HV.out]; rfl, HL2.out.below⟩
set_option maxRecDepth 100000 in
set_option maxHeartbeats 8000000 in
theorem mayFollow_any (a : Option Addr) (cap : Nat) (l : List Dv) (x : Dv) (w : World) (h : RsIn dvL 10 w a l) (hlen : l.length ≤ maxLen) :
    Calls Tryz.prog 193 #[.slice a l.length cap, .agg (dvL x).toArray] w fun e w' => e = .returned (.bool (allR (fun k => behindB (dvAt l k) x) l.length)) ∧ Below w.heap.size w w' := by
  unfold maxLen at hlen
  obtain ⟨V, hV⟩ : ∃ V, allR (fun k => behindB (dvAt l k) x) l.length = V := ⟨_, rfl⟩
  have HNo := Lib.hid (fun k (hk : k < l.length) (h : behindB (dvAt l k) x = false) => hV.symm.trans (allR_no (f := fun k => behindB (dvAt l k) x) hk h))
  have HYes := Lib.hid (fun (h : ∀ k, k < l.length → behindB (dvAt l k) x = true) => hV.symm.trans (allR_yes h))
  rw [hV]
  have HI := Lib.hid h
  clear hV h
  obtain ⟨N, hN⟩ : ∃ N, l.length = N := ⟨_, rfl⟩
  have HN := Lib.hid hN
  rw [hN] at hlen HNo HYes ⊢
  clear hN
  obtain ⟨x', hx'⟩ : ∃ x', x = x' := ⟨_, rfl⟩
  have HX := Lib.hid hx'
  rw [hx']
  clear hx'
  obtain ⟨⟨n0, n1, n2, n3, n4, n5, n6, n7⟩, ad, g⟩ := x'
  unfold dvL
  dsimp only
  go_enter Tryz.func193, Tryz.ntmps193
  go_wp2_with (first
    | ((with_reducible refine @id (wpList _ _ _ (Oper.mk _ (Op.box 162 (.tmp 1)) _ _ _ _ :: _) _ _) ?_); refine wpList_box_h rfl 162 (.tmp 1) rfl #[.int .i64 n0, .int .i64 n1, .int .i64 n2, .int .i64 n3, .int .i64 n4, .int .i64 n5, .int .i64 n6, .bool n7, .int .i64 ad, .int .i64 g] rfl ?_; intro w1 R1 e1 g1 b1; have HL1 := Lib.hid (show Lg w w1 [(R1, #[.int .i64 n0, .int .i64 n1, .int .i64 n2, .int .i64 n3, .int .i64 n4, .int .i64 n5, .int .i64 n6, .bool n7, .int .i64 ad, .int .i64 g], 162)] [] from (Lg.first w).box e1 g1 b1); clear g1 b1 e1))
  have HRB := Lib.hid (HL1.out.get (.head _))
  have HB1 := Lib.hid HL1.out.below
  have HI1 := Lib.hid (HI.out.kept HB1.out)
  clear HL1 HI
  go_loopw [6, 9] (fun _ i wr => ∃ k : Nat, i = .int .i64 (k : Int) ∧ k ≤ N ∧ (∀ j, j < k → behindB (dvAt l j) x = true) ∧ Below w1.heap.size w1 wr) (fun _ i _ => N - (intOf i).toNat)
  case atStart => exact ⟨0, rfl, by omega, fun j hj => absurd hj (by omega), Below.refl _ _⟩
  case round =>
    obtain ⟨k, rfl, hk, hall, hb⟩ := hrel
    have HA := Lib.hid hall
    have HR1 := Lib.hid ((hb.block R1 (Array.getElem?_eq_some_iff.1 HRB.out).1).trans HRB.out)
    clear hall
    by_cases hkn : k < N
    · have hkl : k < l.length := by have := HN.out; omega
      have hi1 : (0 : Int) ≤ (k : Int) := by omega
      have hi2 : (k : Int) < (N : Int) := by omega
      obtain ⟨B, o, ha, hlt, hcs⟩ := HI1.out.at (by omega)
      have HCs := Lib.hid (fun j v hv => (hb.cell (p := ⟨B, _, none⟩) hlt).trans (hcs k _ (dvAt_some hkl) j v hv))
      have HNok := Lib.hid (HNo.out k hkn)
      have HE := Lib.hid (show behindB (dvAt l k) x = (nmLessB (dvAt l k).n x.n && !((dvAt l k).ad == x.ad)) from rfl)
      have HLs := fun W => Lib.hid (implNameLess_any (dvAt l k).n x.n W)
      rw [HX.out] at HE HLs
      clear hcs
      subst ha
      generalize hy : dvAt l k = y at HCs HE HLs
      have HY := Lib.hid hy
      clear hy
      obtain ⟨⟨m0, m1, m2, m3, m4, m5, m6, m7⟩, yad, yg⟩ := y
      unfold dvL at HCs
      unfold nmV at HLs
      dsimp only at HCs HE HLs
      generalize nmLessB ⟨m0, m1, m2, m3, m4, m5, m6, m7⟩ ⟨n0, n1, n2, n3, n4, n5, n6, n7⟩ = Ls at *
      go_wp2_with (first
        | ((with_reducible refine @id (wpList _ _ _ (Oper.mk _ (Op.load 162 (.tmp 11)) _ _ _ _ :: _) _ _) ?_); refine wpList_load_cells rfl 162 (.tmp 11) rfl B (o + k * 10) rfl [.int .i64 m0, .int .i64 m1, .int .i64 m2, .int .i64 m3, .int .i64 m4, .int .i64 m5, .int .i64 m6, .bool m7, .int .i64 yad, .int .i64 yg] HCs.out _ Tryz.underlying162 rfl (by kernel_rfl) ?_)
        | ((with_reducible refine @id (wpList _ _ _ (Oper.mk _ (Op.alloc 162) _ _ _ _ :: _) _ _) ?_); refine wpList_alloc_h rfl 162 rfl (.agg #[.int .i64 0, .int .i64 0, .int .i64 0, .int .i64 0, .int .i64 0, .int .i64 0, .int .i64 0, .bool false, .int .i64 0, .int .i64 0]) (by kernel_rfl) #[.int .i64 0, .int .i64 0, .int .i64 0, .int .i64 0, .int .i64 0, .int .i64 0, .int .i64 0, .bool false, .int .i64 0, .int .i64 0] rfl ?_; intro v1 qR1 e1 g1 b1; have KL1 := Lib.hid (show Lg wr v1 [(qR1, #[.int .i64 0, .int .i64 0, .int .i64 0, .int .i64 0, .int .i64 0, .int .i64 0, .int .i64 0, .bool false, .int .i64 0, .int .i64 0], 162)] [] from (Lg.first wr).box e1 g1 b1); clear g1 b1 e1)
        | ((with_reducible refine @id (wpList _ _ _ (Oper.mk _ (Op.store 162 (.tmp 6) (.tmp 12)) _ _ _ _ :: _) _ _) ?_); refine wpList_put_at rfl 162 (.tmp 6) (.tmp 12) rfl rfl (qR1) 0 rfl (.agg #[.int .i64 m0, .int .i64 m1, .int .i64 m2, .int .i64 m3, .int .i64 m4, .int .i64 m5, .int .i64 m6, .bool m7, .int .i64 yad, .int .i64 yg]) rfl #[.int .i64 m0, .int .i64 m1, .int .i64 m2, .int .i64 m3, .int .i64 m4, .int .i64 m5, .int .i64 m6, .bool m7, .int .i64 yad, .int .i64 yg] rfl 162 #[.int .i64 0, .int .i64 0, .int .i64 0, .int .i64 0, .int .i64 0, .int .i64 0, .int .i64 0, .bool false, .int .i64 0, .int .i64 0] #[.int .i64 m0, .int .i64 m1, .int .i64 m2, .int .i64 m3, .int .i64 m4, .int .i64 m5, .int .i64 m6, .bool m7, .int .i64 yad, .int .i64 yg] (KL1.out.get (.head _)) (by kernel_rfl) (by kernel_rfl) (by kernel_rfl) (by kernel_rfl) ?_; intro v2 g2 o2; have KL2 := Lib.hid (show Lg wr v2 [(qR1, #[.int .i64 m0, .int .i64 m1, .int .i64 m2, .int .i64 m3, .int .i64 m4, .int .i64 m5, .int .i64 m6, .bool m7, .int .i64 yad, .int .i64 yg], 162)] [] from KL1.out.put 0 rfl g2 o2 (fun _ h => nomatch h) (fun _ h => nomatch h) rfl); clear g2 o2; have hb2 := hb.trans (KL2.out.below.mono hb.size); have HRv := Lib.hid ((KL2.out.below.block R1 (Array.getElem?_eq_some_iff.1 HR1.out).1).trans HR1.out); have HXv := Lib.hid (KL2.out.get (.head _)))
        | ((with_reducible refine @id (wpList _ _ _ (Oper.mk _ (Op.load 38 (.tmp 13)) _ _ _ _ :: _) _ _) ?_); refine wpList_load_at rfl 38 (.tmp 13) rfl (qR1) 0 rfl 162 #[.int .i64 m0, .int .i64 m1, .int .i64 m2, .int .i64 m3, .int .i64 m4, .int .i64 m5, .int .i64 m6, .bool m7, .int .i64 yad, .int .i64 yg] (0, 0) HXv.out [.int .i64 m0, .int .i64 m1, .int .i64 m2, .int .i64 m3, .int .i64 m4, .int .i64 m5, .int .i64 m6, .bool m7] rfl _ Tryz.underlying38 rfl (by kernel_rfl) ?_)
        | ((with_reducible refine @id (wpList _ _ _ (Oper.mk _ (Op.load 38 (.tmp 15)) _ _ _ _ :: _) _ _) ?_); refine wpList_load_at rfl 38 (.tmp 15) rfl (R1) 0 rfl 162 #[.int .i64 n0, .int .i64 n1, .int .i64 n2, .int .i64 n3, .int .i64 n4, .int .i64 n5, .int .i64 n6, .bool n7, .int .i64 ad, .int .i64 g] (0, 0) HRv.out [.int .i64 n0, .int .i64 n1, .int .i64 n2, .int .i64 n3, .int .i64 n4, .int .i64 n5, .int .i64 n6, .bool n7] rfl _ Tryz.underlying38 rfl (by kernel_rfl) ?_))
      refine (HLs _).out.mono ?_
      rintro e v3 ⟨rfl, h3⟩
      have hb3 := hb2.trans (h3.mono hb2.size)
      have HR3 := Lib.hid ((h3.block R1 (Array.getElem?_eq_some_iff.1 HRv.out).1).trans HRv.out)
      have HX3 := Lib.hid ((h3.block qR1 (Array.getElem?_eq_some_iff.1 HXv.out).1).trans HXv.out)
      clear h3
      rcases Ls with _ | _
      · have hv := Lib.hid (HNok.out (by rw [HY.out, HX.out, HE.out]; rfl))
        go_wp2_with fail
        go_ret
        exact ⟨by rw [hv.out]; rfl, HB1.out.trans (hb3.mono HB1.out.size)⟩
      by_cases had : yad = ad
      · have hab : (yad == ad) = true := by simp [had]
        have hv := Lib.hid (HNok.out (by rw [HY.out, HX.out, HE.out, hab]; rfl))
        clear had
        go_wp2_with (first
          | ((with_reducible refine @id (wpList _ _ _ (Oper.mk _ (Op.load 2 (.tmp 20)) _ _ _ _ :: _) _ _) ?_); refine wpList_load_one (by kernel_rfl) 2 (.tmp 20) rfl qR1 8 rfl 162 #[.int .i64 m0, .int .i64 m1, .int .i64 m2, .int .i64 m3, .int .i64 m4, .int .i64 m5, .int .i64 m6, .bool m7, .int .i64 yad, .int .i64 yg] (0, 0) HX3.out (.int .i64 yad) rfl _ Tryz.underlying2 rfl (by kernel_rfl) ?_)
          | ((with_reducible refine @id (wpList _ _ _ (Oper.mk _ (Op.load 2 (.tmp 22)) _ _ _ _ :: _) _ _) ?_); refine wpList_load_one (by kernel_rfl) 2 (.tmp 22) rfl R1 8 rfl 162 #[.int .i64 n0, .int .i64 n1, .int .i64 n2, .int .i64 n3, .int .i64 n4, .int .i64 n5, .int .i64 n6, .bool n7, .int .i64 ad, .int .i64 g] (0, 0) HR3.out (.int .i64 ad) rfl _ Tryz.underlying2 rfl (by kernel_rfl) ?_))
        go_ret
        exact ⟨by rw [hv.out]; rfl, HB1.out.trans (hb3.mono HB1.out.size)⟩
      have hab : (yad == ad) = false := by simpa using had
      have HT := Lib.hid (show behindB (dvAt l k) x = true by rw [HY.out, HX.out, HE.out, hab]; rfl)
      clear had
      go_wp2_with (first
        | ((with_reducible refine @id (wpList _ _ _ (Oper.mk _ (Op.load 2 (.tmp 20)) _ _ _ _ :: _) _ _) ?_); refine wpList_load_one (by kernel_rfl) 2 (.tmp 20) rfl qR1 8 rfl 162 #[.int .i64 m0, .int .i64 m1, .int .i64 m2, .int .i64 m3, .int .i64 m4, .int .i64 m5, .int .i64 m6, .bool m7, .int .i64 yad, .int .i64 yg] (0, 0) HX3.out (.int .i64 yad) rfl _ Tryz.underlying2 rfl (by kernel_rfl) ?_)
        | ((with_reducible refine @id (wpList _ _ _ (Oper.mk _ (Op.load 2 (.tmp 22)) _ _ _ _ :: _) _ _) ?_); refine wpList_load_one (by kernel_rfl) 2 (.tmp 22) rfl R1 8 rfl 162 #[.int .i64 n0, .int .i64 n1, .int .i64 n2, .int .i64 n3, .int .i64 n4, .int .i64 n5, .int .i64 n6, .bool n7, .int .i64 ad, .int .i64 g] (0, 0) HR3.out (.int .i64 ad) rfl _ Tryz.underlying2 rfl (by kernel_rfl) ?_))
      go_roundw
      case rel => exact ⟨k + 1, by go_num, by omega, fun j hj => (Nat.lt_or_ge j k).elim (HA.out j) (fun g => (show j = k by omega) ▸ HT.out), hb3⟩
      case measure => simp [intOf]; omega
    · have hv := Lib.hid (HYes.out (fun j hj => HA.out j (by omega)))
      go_wp2_with fail
      go_ret
      exact ⟨by rw [hv.out]; rfl, HB1.out.trans (hb.mono HB1.out.size)⟩
set_option maxRecDepth 100000 in
set_option maxHeartbeats 8000000 in
theorem implDevicesRight_any (a : Option Addr) (cap : Nat) (l : List Dv) (w : World) (h : RsIn dvL 10 w a l) (hlen : l.length ≤ maxLen) (hcap : l.length ≤ cap) :
    Calls Tryz.prog 130 #[.slice a l.length cap] w fun e w' => e = .returned (.bool (dvsB l)) ∧ Below w.heap.size w w' := by
  have hlen' := hlen
  unfold maxLen at hlen
  obtain ⟨V, hV⟩ : ∃ V, dvsB l = V := ⟨_, rfl⟩
  have HVl := Lib.hid (fun k => hV.symm.trans (@dvsB_long l k))
  have HVi := Lib.hid (fun i hi k => hV.symm.trans (@dvsB_no l i hi k))
  have HVy := Lib.hid (fun k1 k2 => hV.symm.trans (@dvsB_yes l k1 k2))
  rw [hV]
  have HI := Lib.hid h
  have HMf := fun W x k (hW : RsIn dvL 10 W a l) (hk : k ≤ l.length) => Lib.hid (show Calls Tryz.prog 193 #[.slice a k cap, .agg (dvL x).toArray] W fun e w' => e = .returned (.bool (allR (fun j => behindB (dvAt l j) x) k)) ∧ Below W.heap.size W w' from by
    have := mayFollow_any a cap (l.take k) x W (hW.take k) (by rw [List.length_take]; omega)
    rw [List.length_take, Nat.min_eq_left hk] at this
    rwa [show allR (fun j => behindB (dvAt (l.take k) j) x) k = allR (fun j => behindB (dvAt l j) x) k from allR_same (fun j hj => by rw [dvAt_take hj])] at this)
  clear h hV hlen'
  obtain ⟨N, hN⟩ : ∃ N, l.length = N := ⟨_, rfl⟩
  have HN := Lib.hid hN
  rw [hN] at hlen hcap HMf ⊢
  clear hN
  by_cases g1 : 8 < N
  · have hd : decide (8 < (N : Int)) = true := decide_eq_true (by omega)
    have hv := Lib.hid (HVl.out (by have := HN.out; omega))
    go_enter Tryz.func130, Tryz.ntmps130
    go_wp2_with fail
    go_ret
    exact ⟨by rw [hv.out]; rfl, Below.refl _ _⟩
  have hd : decide (8 < (N : Int)) = false := decide_eq_false (by omega)
  go_enter Tryz.func130, Tryz.ntmps130
  go_wp2_with fail
  go_loopw [3, 4, 10] (fun _ _ i wr => ∃ k : Nat, i = .int .i64 (k : Int) ∧ k ≤ N ∧ (∀ j, j < k → dvsAt l j = true) ∧ Below w.heap.size w wr) (fun _ _ i _ => N - (intOf i).toNat)
  case atStart => exact ⟨0, rfl, by omega, fun j hj => absurd hj (by omega), Below.refl _ _⟩
  case round =>
    obtain ⟨k, rfl, hk, hall, hb⟩ := hrel
    have HA := Lib.hid hall
    clear hall
    by_cases hkn : k < N
    · have hkl : k < l.length := by have := HN.out; omega
      have hi1 : (0 : Int) ≤ (k : Int) := by omega
      have hi2 : (k : Int) < (N : Int) := by omega
      have hi3 : (k : Int) ≤ (cap : Int) := by omega
      obtain ⟨B, o, ha, hlt, hcs⟩ := HI.out.at (by omega)
      have HCs := Lib.hid (fun j v hv => (hb.cell (p := ⟨B, _, none⟩) hlt).trans (hcs k _ (dvAt_some hkl) j v hv))
      have HNo := Lib.hid (HVi.out k hkl)
      have HE := Lib.hid (show dvsAt l k = (dvOkB (dvAt l k) && allR (fun j => behindB (dvAt l j) (dvAt l k)) k) from rfl)
      have HDr := fun W => Lib.hid (deviceRight_any (dvAt l k) W)
      have HMk := fun W hW => Lib.hid ((HMf W (dvAt l k) k hW (by omega)).out)
      clear hcs HMf
      subst ha
      generalize dvOkB (dvAt l k) = O1 at *
      generalize allR (fun j => behindB (dvAt l j) (dvAt l k)) k = O2 at *
      generalize dvAt l k = y at HCs HDr HMk
      obtain ⟨⟨n0, n1, n2, n3, n4, n5, n6, n7⟩, ad, g⟩ := y
      unfold dvL at HCs HDr HMk
      dsimp only at HCs HDr HMk
      go_wp2_with (first
        | ((with_reducible refine @id (wpList _ _ _ (Oper.mk _ (Op.load 162 (.tmp 13)) _ _ _ _ :: _) _ _) ?_); refine wpList_load_cells rfl 162 (.tmp 13) rfl B (o + k * 10) rfl [.int .i64 n0, .int .i64 n1, .int .i64 n2, .int .i64 n3, .int .i64 n4, .int .i64 n5, .int .i64 n6, .bool n7, .int .i64 ad, .int .i64 g] HCs.out _ Tryz.underlying162 rfl (by kernel_rfl) ?_)
        | ((with_reducible refine @id (wpList _ _ _ (Oper.mk _ (Op.alloc 162) _ _ _ _ :: _) _ _) ?_); refine wpList_alloc_h rfl 162 rfl (.agg #[.int .i64 0, .int .i64 0, .int .i64 0, .int .i64 0, .int .i64 0, .int .i64 0, .int .i64 0, .bool false, .int .i64 0, .int .i64 0]) (by kernel_rfl) #[.int .i64 0, .int .i64 0, .int .i64 0, .int .i64 0, .int .i64 0, .int .i64 0, .int .i64 0, .bool false, .int .i64 0, .int .i64 0] rfl ?_; intro v1 qR1 e1 g1 b1; have KL1 := Lib.hid (show Lg wr v1 [(qR1, #[.int .i64 0, .int .i64 0, .int .i64 0, .int .i64 0, .int .i64 0, .int .i64 0, .int .i64 0, .bool false, .int .i64 0, .int .i64 0], 162)] [] from (Lg.first wr).box e1 g1 b1); clear g1 b1 e1)
        | ((with_reducible refine @id (wpList _ _ _ (Oper.mk _ (Op.store 162 (.tmp 4) (.tmp 14)) _ _ _ _ :: _) _ _) ?_); refine wpList_put_at rfl 162 (.tmp 4) (.tmp 14) rfl rfl (qR1) 0 rfl (.agg #[.int .i64 n0, .int .i64 n1, .int .i64 n2, .int .i64 n3, .int .i64 n4, .int .i64 n5, .int .i64 n6, .bool n7, .int .i64 ad, .int .i64 g]) rfl #[.int .i64 n0, .int .i64 n1, .int .i64 n2, .int .i64 n3, .int .i64 n4, .int .i64 n5, .int .i64 n6, .bool n7, .int .i64 ad, .int .i64 g] rfl 162 #[.int .i64 0, .int .i64 0, .int .i64 0, .int .i64 0, .int .i64 0, .int .i64 0, .int .i64 0, .bool false, .int .i64 0, .int .i64 0] #[.int .i64 n0, .int .i64 n1, .int .i64 n2, .int .i64 n3, .int .i64 n4, .int .i64 n5, .int .i64 n6, .bool n7, .int .i64 ad, .int .i64 g] (KL1.out.get (.head _)) (by kernel_rfl) (by kernel_rfl) (by kernel_rfl) (by kernel_rfl) ?_; intro v2 g2 o2; have KL2 := Lib.hid (show Lg wr v2 [(qR1, #[.int .i64 n0, .int .i64 n1, .int .i64 n2, .int .i64 n3, .int .i64 n4, .int .i64 n5, .int .i64 n6, .bool n7, .int .i64 ad, .int .i64 g], 162)] [] from KL1.out.put 0 rfl g2 o2 (fun _ h => nomatch h) (fun _ h => nomatch h) rfl); clear g2 o2; have hb2 := hb.trans (KL2.out.below.mono hb.size); have HXv := Lib.hid (KL2.out.get (.head _))))
      have HIv := Lib.hid (fun (W : World) (hW : Below v2.heap.size v2 W) => (HI.out.kept hb2).kept hW)
      rcases O1 with _ | _
      · have hv := Lib.hid (HNo.out (by rw [HE.out]; rfl))
        refine wp_region_quiet (C := fun W => Below v2.heap.size v2 W) (by kernel_rfl) (by kernel_rfl) (Below.refl _ _).drew ?_
        dsimp only
        try simp only [Act.put, List.setIfInBounds_toArray, List.set_cons_zero, List.set_cons_succ]
        go_big_quiet_want; refine ⟨.agg #[.int .i64 n0, .int .i64 n1, .int .i64 n2, .int .i64 n3, .int .i64 n4, .int .i64 n5, .int .i64 n6, .bool n7, .int .i64 ad, .int .i64 g], fun W hW => (quietLoadCells 162 (.tmp 4) rfl qR1 0 rfl [.int .i64 n0, .int .i64 n1, .int .i64 n2, .int .i64 n3, .int .i64 n4, .int .i64 n5, .int .i64 n6, .bool n7, .int .i64 ad, .int .i64 g] (rowAll HXv.out hW) _ Tryz.underlying162 rfl (by kernel_rfl)), ?_⟩; simp only [Act.put, List.setIfInBounds_toArray, List.set_cons_zero, List.set_cons_succ]; go_big_quiet_on
        go_big_quiet_want; go_big_quiet_op; refine ⟨_, fun W hW => quietCall hW (HDr W).out, ?_⟩; go_big_quiet_on
        go_big_quiet_want; go_big_quiet_op; first | go_big_quiet_on | (refine ⟨_, fun _ _ => rfl, ?_⟩; go_big_quiet_on)
        go_big_quiet_want; go_big_quiet_op; first | go_big_quiet_on | (refine ⟨_, fun _ _ => rfl, ?_⟩; go_big_quiet_on)
        first | go_big_quiet_skip | (go_big_quiet_want; go_big_quiet_op; first | go_big_quiet_on | (refine ⟨_, fun _ _ => rfl, ?_⟩; go_big_quiet_on))
        first | go_big_quiet_skip | (go_big_quiet_want; go_big_quiet_op; first | go_big_quiet_on | (refine ⟨_, fun _ _ => rfl, ?_⟩; go_big_quiet_on))
        first | go_big_quiet_skip | (go_big_quiet_want; go_big_quiet_op; first | go_big_quiet_on | (refine ⟨_, fun _ _ => rfl, ?_⟩; go_big_quiet_on))
        first | go_big_quiet_skip | (go_big_quiet_want; refine ⟨.agg #[.int .i64 n0, .int .i64 n1, .int .i64 n2, .int .i64 n3, .int .i64 n4, .int .i64 n5, .int .i64 n6, .bool n7, .int .i64 ad, .int .i64 g], fun W hW => (quietLoadCells 162 (.tmp 4) rfl qR1 0 rfl [.int .i64 n0, .int .i64 n1, .int .i64 n2, .int .i64 n3, .int .i64 n4, .int .i64 n5, .int .i64 n6, .bool n7, .int .i64 ad, .int .i64 g] (rowAll HXv.out hW) _ Tryz.underlying162 rfl (by kernel_rfl)), ?_⟩; simp only [Act.put, List.setIfInBounds_toArray, List.set_cons_zero, List.set_cons_succ]; go_big_quiet_on)
        first | go_big_quiet_skip | (go_big_quiet_want; go_big_quiet_op; refine ⟨_, fun W hW => quietCall hW (HMk W (HIv.out W hW)).out, ?_⟩; go_big_quiet_on)
        first | go_big_quiet_skip | (go_big_quiet_want; go_big_quiet_op; first | go_big_quiet_on | (refine ⟨_, fun _ _ => rfl, ?_⟩; go_big_quiet_on))
        go_big_quiet_want; go_big_quiet_op; first | go_big_quiet_on | (refine ⟨_, fun _ _ => rfl, ?_⟩; go_big_quiet_on)
        refine wpQuiet_nil ?_
        intro X hX
        go_wp2_with fail
        go_ret
        exact ⟨by rw [hv.out]; rfl, hb2.trans (hX.mono hb2.size)⟩
      rcases O2 with _ | _
      · have hv := Lib.hid (HNo.out (by rw [HE.out]; rfl))
        refine wp_region_quiet (C := fun W => Below v2.heap.size v2 W) (by kernel_rfl) (by kernel_rfl) (Below.refl _ _).drew ?_
        dsimp only
        try simp only [Act.put, List.setIfInBounds_toArray, List.set_cons_zero, List.set_cons_succ]
        go_big_quiet_want; refine ⟨.agg #[.int .i64 n0, .int .i64 n1, .int .i64 n2, .int .i64 n3, .int .i64 n4, .int .i64 n5, .int .i64 n6, .bool n7, .int .i64 ad, .int .i64 g], fun W hW => (quietLoadCells 162 (.tmp 4) rfl qR1 0 rfl [.int .i64 n0, .int .i64 n1, .int .i64 n2, .int .i64 n3, .int .i64 n4, .int .i64 n5, .int .i64 n6, .bool n7, .int .i64 ad, .int .i64 g] (rowAll HXv.out hW) _ Tryz.underlying162 rfl (by kernel_rfl)), ?_⟩; simp only [Act.put, List.setIfInBounds_toArray, List.set_cons_zero, List.set_cons_succ]; go_big_quiet_on
        go_big_quiet_want; go_big_quiet_op; refine ⟨_, fun W hW => quietCall hW (HDr W).out, ?_⟩; go_big_quiet_on
        go_big_quiet_want; go_big_quiet_op; first | go_big_quiet_on | (refine ⟨_, fun _ _ => rfl, ?_⟩; go_big_quiet_on)
        go_big_quiet_want; go_big_quiet_op; first | go_big_quiet_on | (refine ⟨_, fun _ _ => rfl, ?_⟩; go_big_quiet_on)
        first | go_big_quiet_skip | (go_big_quiet_want; go_big_quiet_op; first | go_big_quiet_on | (refine ⟨_, fun _ _ => rfl, ?_⟩; go_big_quiet_on))
        first | go_big_quiet_skip | (go_big_quiet_want; go_big_quiet_op; first | go_big_quiet_on | (refine ⟨_, fun _ _ => rfl, ?_⟩; go_big_quiet_on))
        first | go_big_quiet_skip | (go_big_quiet_want; go_big_quiet_op; first | go_big_quiet_on | (refine ⟨_, fun _ _ => rfl, ?_⟩; go_big_quiet_on))
        first | go_big_quiet_skip | (go_big_quiet_want; refine ⟨.agg #[.int .i64 n0, .int .i64 n1, .int .i64 n2, .int .i64 n3, .int .i64 n4, .int .i64 n5, .int .i64 n6, .bool n7, .int .i64 ad, .int .i64 g], fun W hW => (quietLoadCells 162 (.tmp 4) rfl qR1 0 rfl [.int .i64 n0, .int .i64 n1, .int .i64 n2, .int .i64 n3, .int .i64 n4, .int .i64 n5, .int .i64 n6, .bool n7, .int .i64 ad, .int .i64 g] (rowAll HXv.out hW) _ Tryz.underlying162 rfl (by kernel_rfl)), ?_⟩; simp only [Act.put, List.setIfInBounds_toArray, List.set_cons_zero, List.set_cons_succ]; go_big_quiet_on)
        first | go_big_quiet_skip | (go_big_quiet_want; go_big_quiet_op; refine ⟨_, fun W hW => quietCall hW (HMk W (HIv.out W hW)).out, ?_⟩; go_big_quiet_on)
        first | go_big_quiet_skip | (go_big_quiet_want; go_big_quiet_op; first | go_big_quiet_on | (refine ⟨_, fun _ _ => rfl, ?_⟩; go_big_quiet_on))
        go_big_quiet_want; go_big_quiet_op; first | go_big_quiet_on | (refine ⟨_, fun _ _ => rfl, ?_⟩; go_big_quiet_on)
        refine wpQuiet_nil ?_
        intro X hX
        go_wp2_with fail
        go_ret
        exact ⟨by rw [hv.out]; rfl, hb2.trans (hX.mono hb2.size)⟩
      have HT := Lib.hid (show dvsAt l k = true by rw [HE.out]; rfl)
      refine wp_region_quiet (C := fun W => Below v2.heap.size v2 W) (by kernel_rfl) (by kernel_rfl) (Below.refl _ _).drew ?_
      dsimp only
      try simp only [Act.put, List.setIfInBounds_toArray, List.set_cons_zero, List.set_cons_succ]
      go_big_quiet_want; refine ⟨.agg #[.int .i64 n0, .int .i64 n1, .int .i64 n2, .int .i64 n3, .int .i64 n4, .int .i64 n5, .int .i64 n6, .bool n7, .int .i64 ad, .int .i64 g], fun W hW => (quietLoadCells 162 (.tmp 4) rfl qR1 0 rfl [.int .i64 n0, .int .i64 n1, .int .i64 n2, .int .i64 n3, .int .i64 n4, .int .i64 n5, .int .i64 n6, .bool n7, .int .i64 ad, .int .i64 g] (rowAll HXv.out hW) _ Tryz.underlying162 rfl (by kernel_rfl)), ?_⟩; simp only [Act.put, List.setIfInBounds_toArray, List.set_cons_zero, List.set_cons_succ]; go_big_quiet_on
      go_big_quiet_want; go_big_quiet_op; refine ⟨_, fun W hW => quietCall hW (HDr W).out, ?_⟩; go_big_quiet_on
      go_big_quiet_want; go_big_quiet_op; first | go_big_quiet_on | (refine ⟨_, fun _ _ => rfl, ?_⟩; go_big_quiet_on)
      go_big_quiet_want; go_big_quiet_op; first | go_big_quiet_on | (refine ⟨_, fun _ _ => rfl, ?_⟩; go_big_quiet_on)
      first | go_big_quiet_skip | (go_big_quiet_want; go_big_quiet_op; first | go_big_quiet_on | (refine ⟨_, fun _ _ => rfl, ?_⟩; go_big_quiet_on))
      first | go_big_quiet_skip | (go_big_quiet_want; go_big_quiet_op; first | go_big_quiet_on | (refine ⟨_, fun _ _ => rfl, ?_⟩; go_big_quiet_on))
      first | go_big_quiet_skip | (go_big_quiet_want; go_big_quiet_op; first | go_big_quiet_on | (refine ⟨_, fun _ _ => rfl, ?_⟩; go_big_quiet_on))
      first | go_big_quiet_skip | (go_big_quiet_want; refine ⟨.agg #[.int .i64 n0, .int .i64 n1, .int .i64 n2, .int .i64 n3, .int .i64 n4, .int .i64 n5, .int .i64 n6, .bool n7, .int .i64 ad, .int .i64 g], fun W hW => (quietLoadCells 162 (.tmp 4) rfl qR1 0 rfl [.int .i64 n0, .int .i64 n1, .int .i64 n2, .int .i64 n3, .int .i64 n4, .int .i64 n5, .int .i64 n6, .bool n7, .int .i64 ad, .int .i64 g] (rowAll HXv.out hW) _ Tryz.underlying162 rfl (by kernel_rfl)), ?_⟩; simp only [Act.put, List.setIfInBounds_toArray, List.set_cons_zero, List.set_cons_succ]; go_big_quiet_on)
      first | go_big_quiet_skip | (go_big_quiet_want; go_big_quiet_op; refine ⟨_, fun W hW => quietCall hW (HMk W (HIv.out W hW)).out, ?_⟩; go_big_quiet_on)
      first | go_big_quiet_skip | (go_big_quiet_want; go_big_quiet_op; first | go_big_quiet_on | (refine ⟨_, fun _ _ => rfl, ?_⟩; go_big_quiet_on))
      go_big_quiet_want; go_big_quiet_op; first | go_big_quiet_on | (refine ⟨_, fun _ _ => rfl, ?_⟩; go_big_quiet_on)
      refine wpQuiet_nil ?_
      intro X hX
      go_wp2_with fail
      go_roundw
      case rel => exact ⟨k + 1, by go_num, by omega, fun j hj => (Nat.lt_or_ge j k).elim (HA.out j) (fun g => (show j = k by omega) ▸ HT.out), hb2.trans (hX.mono hb2.size)⟩
      case measure => simp [intOf]; omega
    · have hv := Lib.hid (HVy.out (by have := HN.out; omega) (fun i hi => HA.out i (by have := HN.out; omega)))
      go_wp2_with fail
      go_ret
      exact ⟨by rw [hv.out]; rfl, hb⟩
set_option maxRecDepth 100000 in
set_option maxHeartbeats 8000000 in
theorem specDevicesRight_any (a : Option Addr) (cap : Nat) (l : List Dv) (w : World) (h : RsIn dvL 10 w a l) (hlen : l.length ≤ maxLen) :
    Calls Tryz.prog 81 #[.slice a l.length cap] w fun e w' => e = .returned (.bool (dvsB l)) ∧ Below w.heap.size w w' := by
  unfold maxLen at hlen
  obtain ⟨V, hV⟩ : ∃ V, dvsB l = V := ⟨_, rfl⟩
  have HVl := Lib.hid (fun k => hV.symm.trans (@dvsB_long l k))
  have HVi := Lib.hid (fun i hi k => hV.symm.trans (@dvsB_no l i hi k))
  have HVy := Lib.hid (fun k1 k2 => hV.symm.trans (@dvsB_yes l k1 k2))
  rw [hV]
  have HI := Lib.hid h
  clear h hV
  obtain ⟨N, hN⟩ : ∃ N, l.length = N := ⟨_, rfl⟩
  have HN := Lib.hid hN
  rw [hN] at hlen ⊢
  clear hN
  by_cases g1 : 8 < N
  · have hd : decide (8 < (N : Int)) = true := decide_eq_true (by omega)
    have hv := Lib.hid (HVl.out (by have := HN.out; omega))
    go_enter Tryz.func81, Tryz.ntmps81
    go_wp2_with fail
    go_ret
    exact ⟨by rw [hv.out]; rfl, Below.refl _ _⟩
  have hd : decide (8 < (N : Int)) = false := decide_eq_false (by omega)
  go_enter Tryz.func81, Tryz.ntmps81
  go_wp2_with fail
  go_loopw [3, 4] (fun i _ wr => ∃ k : Nat, i = .int .i64 (k : Int) ∧ k ≤ N ∧ (∀ j, j < k → dvsAt l j = true) ∧ Below w.heap.size w wr) (fun i _ _ => N - (intOf i).toNat)
  case atStart => exact ⟨0, rfl, by omega, fun j hj => absurd hj (by omega), Below.refl _ _⟩
  case round =>
    obtain ⟨k, rfl, hk, hall, hb⟩ := hrel
    have HA := Lib.hid hall
    clear hall
    by_cases hkn : k < N
    · have hkl : k < l.length := by have := HN.out; omega
      have hi1 : (0 : Int) ≤ (k : Int) := by omega
      have hi2 : (k : Int) < (N : Int) := by omega
      obtain ⟨B, o, ha, hlt, hcs⟩ := HI.out.at (by omega)
      have lB : B < wr.heap.size := Nat.lt_of_lt_of_le hlt hb.size
      have HCw := Lib.hid hcs
      have HCs := Lib.hid (fun j v hv => (hb.cell (p := ⟨B, _, none⟩) hlt).trans (hcs k _ (dvAt_some hkl) j v hv))
      have HNo := Lib.hid (HVi.out k hkl)
      have HE := Lib.hid (show dvsAt l k = ((okB (dvAt l k).n && (inB 0 251 (dvAt l k).ad && inB 0 600 (dvAt l k).g)) && ((decide (k = 0) || nmLessB (dvAt l (k - 1)).n (dvAt l k).n) && allR (fun t => !((dvAt l t).ad == (dvAt l k).ad)) k)) from (spAt_same HA.out).symm.trans rfl)
      have HNk := fun W => Lib.hid (specNameOk_any (dvAt l k).n W)
      have HPo := Lib.hid (fun (p : 0 < k) => (dvOkB_of (dvsAt_of (HA.out (k - 1) (by omega))).1).1)
      clear hcs
      subst ha
      generalize hy : dvAt l k = y at HCs HE HNk
      have HY := Lib.hid hy
      clear hy
      obtain ⟨⟨n0, n1, n2, n3, n4, n5, n6, n7⟩, ad, g⟩ := y
      unfold dvL at HCs
      unfold nmV at HNk
      dsimp only at HCs HE HNk
      have HCn := Lib.hid (show ∀ (j : Nat) v, ([.int .i64 n0, .int .i64 n1, .int .i64 n2, .int .i64 n3, .int .i64 n4, .int .i64 n5, .int .i64 n6, .bool n7] : List Value)[j]? = some v → wr.cell? ⟨B, o + k * 10 + j, none⟩ = some v from fun j v hv => HCs.out j v (dv_nm n0 n1 n2 n3 n4 n5 n6 n7 ad g j v hv))
      have HCa := Lib.hid (show wr.cell? ⟨B, o + k * 10 + 8, none⟩ = some (.int .i64 ad) from HCs.out 8 _ rfl)
      have HCg := Lib.hid (show wr.cell? ⟨B, o + k * 10 + 9, none⟩ = some (.int .i64 g) from HCs.out 9 _ rfl)
      clear HCs
      go_wp2_with fail
      rcases c0 : okB ⟨n0, n1, n2, n3, n4, n5, n6, n7⟩ with _ | _
      · rw [c0] at HNk
        have hv := Lib.hid (HNo.out (by rw [HE.out, c0]; rfl))
        refine wp_region_quiet (C := fun W => Below wr.heap.size wr W) (by kernel_rfl) (by kernel_rfl) (Below.refl _ _).drew ?_
        dsimp only
        try simp only [Act.put, List.setIfInBounds_toArray, List.set_cons_zero, List.set_cons_succ]
        go_big_quiet_want; go_big_quiet_op; first | go_big_quiet_on | (refine ⟨_, fun _ _ => rfl, ?_⟩; go_big_quiet_on)
        go_big_quiet_want; go_big_quiet_op; first | go_big_quiet_on | (refine ⟨_, fun _ _ => rfl, ?_⟩; go_big_quiet_on)
        go_big_quiet_want; go_big_quiet_op; first | go_big_quiet_on | (refine ⟨_, fun _ _ => rfl, ?_⟩; go_big_quiet_on)
        go_big_quiet_want; go_big_quiet_op; first | go_big_quiet_on | (refine ⟨_, fun _ _ => rfl, ?_⟩; go_big_quiet_on)
        go_big_quiet_want; refine ⟨.agg #[.int .i64 n0, .int .i64 n1, .int .i64 n2, .int .i64 n3, .int .i64 n4, .int .i64 n5, .int .i64 n6, .bool n7], fun W hW => (quietLoadCells 38 (.tmp 17) rfl B (o + k * 10) rfl [.int .i64 n0, .int .i64 n1, .int .i64 n2, .int .i64 n3, .int .i64 n4, .int .i64 n5, .int .i64 n6, .bool n7] (fun j v hv => (hW.cell (p := ⟨B, o + k * 10 + j, none⟩) lB).trans (HCn.out j v hv)) _ Tryz.underlying38 rfl (by kernel_rfl)), ?_⟩; simp only [Act.put, List.setIfInBounds_toArray, List.set_cons_zero, List.set_cons_succ]; go_big_quiet_on
        go_big_quiet_want; go_big_quiet_op; refine ⟨_, fun W hW => quietCall hW (HNk W).out, ?_⟩; go_big_quiet_on
        go_big_quiet_want; go_big_quiet_op; first | go_big_quiet_on | (refine ⟨_, fun _ _ => rfl, ?_⟩; go_big_quiet_on)
        go_big_quiet_want; go_big_quiet_op; first | go_big_quiet_on | (refine ⟨_, fun _ _ => rfl, ?_⟩; go_big_quiet_on)
        first | go_big_quiet_skip | (go_big_quiet_want; go_big_quiet_op; first | go_big_quiet_on | (refine ⟨_, fun _ _ => rfl, ?_⟩; go_big_quiet_on))
        first | go_big_quiet_skip | (go_big_quiet_want; go_big_quiet_op; first | go_big_quiet_on | (refine ⟨_, fun _ _ => rfl, ?_⟩; go_big_quiet_on))
        first | go_big_quiet_skip | (go_big_quiet_want; go_big_quiet_op; first | go_big_quiet_on | (refine ⟨_, fun _ _ => rfl, ?_⟩; go_big_quiet_on))
        first | go_big_quiet_skip | (go_big_quiet_want; go_big_quiet_op; first | go_big_quiet_on | (refine ⟨_, fun _ _ => rfl, ?_⟩; go_big_quiet_on))
        first | go_big_quiet_skip | (go_big_quiet_want; refine ⟨.int .i64 ad, fun W hW => (quietLoadOne 2 (.tmp 25) rfl B (o + k * 10 + 8) rfl (.int .i64 ad) ((hW.cell (p := ⟨B, o + k * 10 + 8, none⟩) lB).trans HCa.out) _ Tryz.underlying2 rfl), ?_⟩; simp only [Act.put, List.setIfInBounds_toArray, List.set_cons_zero, List.set_cons_succ]; go_big_quiet_on)
        first | go_big_quiet_skip | (go_big_quiet_want; go_big_quiet_op; refine ⟨_, fun W hW => (by have := quietSame hW (l05Addr_any ad W); rw [c1] at this; exact this), ?_⟩; go_big_quiet_on)
        first | go_big_quiet_skip | (go_big_quiet_want; go_big_quiet_op; first | go_big_quiet_on | (refine ⟨_, fun _ _ => rfl, ?_⟩; go_big_quiet_on))
        go_big_quiet_want; go_big_quiet_op; first | go_big_quiet_on | (refine ⟨_, fun _ _ => rfl, ?_⟩; go_big_quiet_on)
        go_big_quiet_want; go_big_quiet_op; first | go_big_quiet_on | (refine ⟨_, fun _ _ => rfl, ?_⟩; go_big_quiet_on)
        first | go_big_quiet_skip | (go_big_quiet_want; go_big_quiet_op; first | go_big_quiet_on | (refine ⟨_, fun _ _ => rfl, ?_⟩; go_big_quiet_on))
        first | go_big_quiet_skip | (go_big_quiet_want; go_big_quiet_op; first | go_big_quiet_on | (refine ⟨_, fun _ _ => rfl, ?_⟩; go_big_quiet_on))
        first | go_big_quiet_skip | (go_big_quiet_want; go_big_quiet_op; first | go_big_quiet_on | (refine ⟨_, fun _ _ => rfl, ?_⟩; go_big_quiet_on))
        first | go_big_quiet_skip | (go_big_quiet_want; go_big_quiet_op; first | go_big_quiet_on | (refine ⟨_, fun _ _ => rfl, ?_⟩; go_big_quiet_on))
        first | go_big_quiet_skip | (go_big_quiet_want; refine ⟨.int .i64 g, fun W hW => (quietLoadOne 2 (.tmp 34) rfl B (o + k * 10 + 9) rfl (.int .i64 g) ((hW.cell (p := ⟨B, o + k * 10 + 9, none⟩) lB).trans HCg.out) _ Tryz.underlying2 rfl), ?_⟩; simp only [Act.put, List.setIfInBounds_toArray, List.set_cons_zero, List.set_cons_succ]; go_big_quiet_on)
        first | go_big_quiet_skip | (go_big_quiet_want; go_big_quiet_op; refine ⟨_, fun W hW => (by have := quietSame hW (l02Is_any g 0 600 W); rw [c2] at this; exact this), ?_⟩; go_big_quiet_on)
        first | go_big_quiet_skip | (go_big_quiet_want; go_big_quiet_op; first | go_big_quiet_on | (refine ⟨_, fun _ _ => rfl, ?_⟩; go_big_quiet_on))
        go_big_quiet_want; go_big_quiet_op; first | go_big_quiet_on | (refine ⟨_, fun _ _ => rfl, ?_⟩; go_big_quiet_on)
        go_big_quiet_want; go_big_quiet_op; first | go_big_quiet_on | (refine ⟨_, fun _ _ => rfl, ?_⟩; go_big_quiet_on)
        first | go_big_quiet_skip | (go_big_quiet_want; go_big_quiet_op; first | go_big_quiet_on | (refine ⟨_, fun _ _ => rfl, ?_⟩; go_big_quiet_on))
        first | go_big_quiet_skip | (go_big_quiet_want; go_big_quiet_op; first | go_big_quiet_on | (refine ⟨_, fun _ _ => rfl, ?_⟩; go_big_quiet_on))
        first | go_big_quiet_skip | (go_big_quiet_want; go_big_quiet_op; first | go_big_quiet_on | (refine ⟨_, fun _ _ => rfl, ?_⟩; go_big_quiet_on))
        first | go_big_quiet_skip | (go_big_quiet_want; go_big_quiet_op; first | go_big_quiet_on | (refine ⟨_, fun _ _ => rfl, ?_⟩; go_big_quiet_on))
        first | go_big_quiet_skip | (go_big_quiet_want; go_big_quiet_op; first | go_big_quiet_on | (refine ⟨_, fun _ _ => rfl, ?_⟩; go_big_quiet_on))
        first | go_big_quiet_skip | (go_big_quiet_want; go_big_quiet_op; first | go_big_quiet_on | (refine ⟨_, fun _ _ => rfl, ?_⟩; go_big_quiet_on))
        first | go_big_quiet_skip | (go_big_quiet_want; go_big_quiet_op; first | go_big_quiet_on | (refine ⟨_, fun _ _ => rfl, ?_⟩; go_big_quiet_on))
        first | go_big_quiet_skip | (go_big_quiet_want; go_big_quiet_op; first | go_big_quiet_on | (refine ⟨_, fun _ _ => rfl, ?_⟩; go_big_quiet_on))
        first | go_big_quiet_skip | (go_big_quiet_want; refine ⟨.agg #[.int .i64 m0, .int .i64 m1, .int .i64 m2, .int .i64 m3, .int .i64 m4, .int .i64 m5, .int .i64 m6, .bool m7], fun W hW => (quietLoadCells 38 (.tmp 47) rfl B (o + q * 10) rfl [.int .i64 m0, .int .i64 m1, .int .i64 m2, .int .i64 m3, .int .i64 m4, .int .i64 m5, .int .i64 m6, .bool m7] (fun j v hv => (hW.cell (p := ⟨B, o + q * 10 + j, none⟩) lB).trans (HCm.out j v hv)) _ Tryz.underlying38 rfl (by kernel_rfl)), ?_⟩; simp only [Act.put, List.setIfInBounds_toArray, List.set_cons_zero, List.set_cons_succ]; go_big_quiet_on)
        first | go_big_quiet_skip | (go_big_quiet_want; go_big_quiet_op; first | go_big_quiet_on | (refine ⟨_, fun _ _ => rfl, ?_⟩; go_big_quiet_on))
        first | go_big_quiet_skip | (go_big_quiet_want; go_big_quiet_op; first | go_big_quiet_on | (refine ⟨_, fun _ _ => rfl, ?_⟩; go_big_quiet_on))
        first | go_big_quiet_skip | (go_big_quiet_want; go_big_quiet_op; first | go_big_quiet_on | (refine ⟨_, fun _ _ => rfl, ?_⟩; go_big_quiet_on))
        first | go_big_quiet_skip | (go_big_quiet_want; go_big_quiet_op; first | go_big_quiet_on | (refine ⟨_, fun _ _ => rfl, ?_⟩; go_big_quiet_on))
        first | go_big_quiet_skip | (go_big_quiet_want; refine ⟨.agg #[.int .i64 n0, .int .i64 n1, .int .i64 n2, .int .i64 n3, .int .i64 n4, .int .i64 n5, .int .i64 n6, .bool n7], fun W hW => (quietLoadCells 38 (.tmp 52) rfl B (o + k * 10) rfl [.int .i64 n0, .int .i64 n1, .int .i64 n2, .int .i64 n3, .int .i64 n4, .int .i64 n5, .int .i64 n6, .bool n7] (fun j v hv => (hW.cell (p := ⟨B, o + k * 10 + j, none⟩) lB).trans (HCn.out j v hv)) _ Tryz.underlying38 rfl (by kernel_rfl)), ?_⟩; simp only [Act.put, List.setIfInBounds_toArray, List.set_cons_zero, List.set_cons_succ]; go_big_quiet_on)
        first | go_big_quiet_skip | (go_big_quiet_want; go_big_quiet_op; refine ⟨_, fun W hW => quietCall hW (HLs W).out, ?_⟩; go_big_quiet_on)
        first | go_big_quiet_skip | (go_big_quiet_want; go_big_quiet_op; first | go_big_quiet_on | (refine ⟨_, fun _ _ => rfl, ?_⟩; go_big_quiet_on))
        first | go_big_quiet_skip | (go_big_quiet_want; go_big_quiet_op; first | go_big_quiet_on | (refine ⟨_, fun _ _ => rfl, ?_⟩; go_big_quiet_on))
        go_big_quiet_want; go_big_quiet_op; first | go_big_quiet_on | (refine ⟨_, fun _ _ => rfl, ?_⟩; go_big_quiet_on)
        refine wpQuiet_nil ?_
        intro wx hx
        go_wp2_with fail
        go_ret
        exact ⟨by rw [hv.out]; rfl, hb.trans (hx.mono hb.size)⟩
      rw [c0] at HNk
      rcases c1 : inB 0 251 ad with _ | _
      · have hv := Lib.hid (HNo.out (by rw [HE.out, c0, c1]; rfl))
        refine wp_region_quiet (C := fun W => Below wr.heap.size wr W) (by kernel_rfl) (by kernel_rfl) (Below.refl _ _).drew ?_
        dsimp only
        try simp only [Act.put, List.setIfInBounds_toArray, List.set_cons_zero, List.set_cons_succ]
        go_big_quiet_want; go_big_quiet_op; first | go_big_quiet_on | (refine ⟨_, fun _ _ => rfl, ?_⟩; go_big_quiet_on)
        go_big_quiet_want; go_big_quiet_op; first | go_big_quiet_on | (refine ⟨_, fun _ _ => rfl, ?_⟩; go_big_quiet_on)
        go_big_quiet_want; go_big_quiet_op; first | go_big_quiet_on | (refine ⟨_, fun _ _ => rfl, ?_⟩; go_big_quiet_on)
        go_big_quiet_want; go_big_quiet_op; first | go_big_quiet_on | (refine ⟨_, fun _ _ => rfl, ?_⟩; go_big_quiet_on)
        go_big_quiet_want; refine ⟨.agg #[.int .i64 n0, .int .i64 n1, .int .i64 n2, .int .i64 n3, .int .i64 n4, .int .i64 n5, .int .i64 n6, .bool n7], fun W hW => (quietLoadCells 38 (.tmp 17) rfl B (o + k * 10) rfl [.int .i64 n0, .int .i64 n1, .int .i64 n2, .int .i64 n3, .int .i64 n4, .int .i64 n5, .int .i64 n6, .bool n7] (fun j v hv => (hW.cell (p := ⟨B, o + k * 10 + j, none⟩) lB).trans (HCn.out j v hv)) _ Tryz.underlying38 rfl (by kernel_rfl)), ?_⟩; simp only [Act.put, List.setIfInBounds_toArray, List.set_cons_zero, List.set_cons_succ]; go_big_quiet_on
        go_big_quiet_want; go_big_quiet_op; refine ⟨_, fun W hW => quietCall hW (HNk W).out, ?_⟩; go_big_quiet_on
        go_big_quiet_want; go_big_quiet_op; first | go_big_quiet_on | (refine ⟨_, fun _ _ => rfl, ?_⟩; go_big_quiet_on)
        go_big_quiet_want; go_big_quiet_op; first | go_big_quiet_on | (refine ⟨_, fun _ _ => rfl, ?_⟩; go_big_quiet_on)
        first | go_big_quiet_skip | (go_big_quiet_want; go_big_quiet_op; first | go_big_quiet_on | (refine ⟨_, fun _ _ => rfl, ?_⟩; go_big_quiet_on))
        first | go_big_quiet_skip | (go_big_quiet_want; go_big_quiet_op; first | go_big_quiet_on | (refine ⟨_, fun _ _ => rfl, ?_⟩; go_big_quiet_on))
        first | go_big_quiet_skip | (go_big_quiet_want; go_big_quiet_op; first | go_big_quiet_on | (refine ⟨_, fun _ _ => rfl, ?_⟩; go_big_quiet_on))
        first | go_big_quiet_skip | (go_big_quiet_want; go_big_quiet_op; first | go_big_quiet_on | (refine ⟨_, fun _ _ => rfl, ?_⟩; go_big_quiet_on))
        first | go_big_quiet_skip | (go_big_quiet_want; refine ⟨.int .i64 ad, fun W hW => (quietLoadOne 2 (.tmp 25) rfl B (o + k * 10 + 8) rfl (.int .i64 ad) ((hW.cell (p := ⟨B, o + k * 10 + 8, none⟩) lB).trans HCa.out) _ Tryz.underlying2 rfl), ?_⟩; simp only [Act.put, List.setIfInBounds_toArray, List.set_cons_zero, List.set_cons_succ]; go_big_quiet_on)
        first | go_big_quiet_skip | (go_big_quiet_want; go_big_quiet_op; refine ⟨_, fun W hW => (by have := quietSame hW (l05Addr_any ad W); rw [c1] at this; exact this), ?_⟩; go_big_quiet_on)
        first | go_big_quiet_skip | (go_big_quiet_want; go_big_quiet_op; first | go_big_quiet_on | (refine ⟨_, fun _ _ => rfl, ?_⟩; go_big_quiet_on))
        go_big_quiet_want; go_big_quiet_op; first | go_big_quiet_on | (refine ⟨_, fun _ _ => rfl, ?_⟩; go_big_quiet_on)
        go_big_quiet_want; go_big_quiet_op; first | go_big_quiet_on | (refine ⟨_, fun _ _ => rfl, ?_⟩; go_big_quiet_on)
        first | go_big_quiet_skip | (go_big_quiet_want; go_big_quiet_op; first | go_big_quiet_on | (refine ⟨_, fun _ _ => rfl, ?_⟩; go_big_quiet_on))
        first | go_big_quiet_skip | (go_big_quiet_want; go_big_quiet_op; first | go_big_quiet_on | (refine ⟨_, fun _ _ => rfl, ?_⟩; go_big_quiet_on))
        first | go_big_quiet_skip | (go_big_quiet_want; go_big_quiet_op; first | go_big_quiet_on | (refine ⟨_, fun _ _ => rfl, ?_⟩; go_big_quiet_on))
        first | go_big_quiet_skip | (go_big_quiet_want; go_big_quiet_op; first | go_big_quiet_on | (refine ⟨_, fun _ _ => rfl, ?_⟩; go_big_quiet_on))
        first | go_big_quiet_skip | (go_big_quiet_want; refine ⟨.int .i64 g, fun W hW => (quietLoadOne 2 (.tmp 34) rfl B (o + k * 10 + 9) rfl (.int .i64 g) ((hW.cell (p := ⟨B, o + k * 10 + 9, none⟩) lB).trans HCg.out) _ Tryz.underlying2 rfl), ?_⟩; simp only [Act.put, List.setIfInBounds_toArray, List.set_cons_zero, List.set_cons_succ]; go_big_quiet_on)
        first | go_big_quiet_skip | (go_big_quiet_want; go_big_quiet_op; refine ⟨_, fun W hW => (by have := quietSame hW (l02Is_any g 0 600 W); rw [c2] at this; exact this), ?_⟩; go_big_quiet_on)
        first | go_big_quiet_skip | (go_big_quiet_want; go_big_quiet_op; first | go_big_quiet_on | (refine ⟨_, fun _ _ => rfl, ?_⟩; go_big_quiet_on))
        go_big_quiet_want; go_big_quiet_op; first | go_big_quiet_on | (refine ⟨_, fun _ _ => rfl, ?_⟩; go_big_quiet_on)
        go_big_quiet_want; go_big_quiet_op; first | go_big_quiet_on | (refine ⟨_, fun _ _ => rfl, ?_⟩; go_big_quiet_on)
        first | go_big_quiet_skip | (go_big_quiet_want; go_big_quiet_op; first | go_big_quiet_on | (refine ⟨_, fun _ _ => rfl, ?_⟩; go_big_quiet_on))
        first | go_big_quiet_skip | (go_big_quiet_want; go_big_quiet_op; first | go_big_quiet_on | (refine ⟨_, fun _ _ => rfl, ?_⟩; go_big_quiet_on))
        first | go_big_quiet_skip | (go_big_quiet_want; go_big_quiet_op; first | go_big_quiet_on | (refine ⟨_, fun _ _ => rfl, ?_⟩; go_big_quiet_on))
        first | go_big_quiet_skip | (go_big_quiet_want; go_big_quiet_op; first | go_big_quiet_on | (refine ⟨_, fun _ _ => rfl, ?_⟩; go_big_quiet_on))
        first | go_big_quiet_skip | (go_big_quiet_want; go_big_quiet_op; first | go_big_quiet_on | (refine ⟨_, fun _ _ => rfl, ?_⟩; go_big_quiet_on))
        first | go_big_quiet_skip | (go_big_quiet_want; go_big_quiet_op; first | go_big_quiet_on | (refine ⟨_, fun _ _ => rfl, ?_⟩; go_big_quiet_on))
        first | go_big_quiet_skip | (go_big_quiet_want; go_big_quiet_op; first | go_big_quiet_on | (refine ⟨_, fun _ _ => rfl, ?_⟩; go_big_quiet_on))
        first | go_big_quiet_skip | (go_big_quiet_want; go_big_quiet_op; first | go_big_quiet_on | (refine ⟨_, fun _ _ => rfl, ?_⟩; go_big_quiet_on))
        first | go_big_quiet_skip | (go_big_quiet_want; refine ⟨.agg #[.int .i64 m0, .int .i64 m1, .int .i64 m2, .int .i64 m3, .int .i64 m4, .int .i64 m5, .int .i64 m6, .bool m7], fun W hW => (quietLoadCells 38 (.tmp 47) rfl B (o + q * 10) rfl [.int .i64 m0, .int .i64 m1, .int .i64 m2, .int .i64 m3, .int .i64 m4, .int .i64 m5, .int .i64 m6, .bool m7] (fun j v hv => (hW.cell (p := ⟨B, o + q * 10 + j, none⟩) lB).trans (HCm.out j v hv)) _ Tryz.underlying38 rfl (by kernel_rfl)), ?_⟩; simp only [Act.put, List.setIfInBounds_toArray, List.set_cons_zero, List.set_cons_succ]; go_big_quiet_on)
        first | go_big_quiet_skip | (go_big_quiet_want; go_big_quiet_op; first | go_big_quiet_on | (refine ⟨_, fun _ _ => rfl, ?_⟩; go_big_quiet_on))
        first | go_big_quiet_skip | (go_big_quiet_want; go_big_quiet_op; first | go_big_quiet_on | (refine ⟨_, fun _ _ => rfl, ?_⟩; go_big_quiet_on))
        first | go_big_quiet_skip | (go_big_quiet_want; go_big_quiet_op; first | go_big_quiet_on | (refine ⟨_, fun _ _ => rfl, ?_⟩; go_big_quiet_on))
        first | go_big_quiet_skip | (go_big_quiet_want; go_big_quiet_op; first | go_big_quiet_on | (refine ⟨_, fun _ _ => rfl, ?_⟩; go_big_quiet_on))
        first | go_big_quiet_skip | (go_big_quiet_want; refine ⟨.agg #[.int .i64 n0, .int .i64 n1, .int .i64 n2, .int .i64 n3, .int .i64 n4, .int .i64 n5, .int .i64 n6, .bool n7], fun W hW => (quietLoadCells 38 (.tmp 52) rfl B (o + k * 10) rfl [.int .i64 n0, .int .i64 n1, .int .i64 n2, .int .i64 n3, .int .i64 n4, .int .i64 n5, .int .i64 n6, .bool n7] (fun j v hv => (hW.cell (p := ⟨B, o + k * 10 + j, none⟩) lB).trans (HCn.out j v hv)) _ Tryz.underlying38 rfl (by kernel_rfl)), ?_⟩; simp only [Act.put, List.setIfInBounds_toArray, List.set_cons_zero, List.set_cons_succ]; go_big_quiet_on)
        first | go_big_quiet_skip | (go_big_quiet_want; go_big_quiet_op; refine ⟨_, fun W hW => quietCall hW (HLs W).out, ?_⟩; go_big_quiet_on)
        first | go_big_quiet_skip | (go_big_quiet_want; go_big_quiet_op; first | go_big_quiet_on | (refine ⟨_, fun _ _ => rfl, ?_⟩; go_big_quiet_on))
        first | go_big_quiet_skip | (go_big_quiet_want; go_big_quiet_op; first | go_big_quiet_on | (refine ⟨_, fun _ _ => rfl, ?_⟩; go_big_quiet_on))
        go_big_quiet_want; go_big_quiet_op; first | go_big_quiet_on | (refine ⟨_, fun _ _ => rfl, ?_⟩; go_big_quiet_on)
        refine wpQuiet_nil ?_
        intro wx hx
        go_wp2_with fail
        go_ret
        exact ⟨by rw [hv.out]; rfl, hb.trans (hx.mono hb.size)⟩
      rcases c2 : inB 0 600 g with _ | _
      · have hv := Lib.hid (HNo.out (by rw [HE.out, c0, c1, c2]; rfl))
        refine wp_region_quiet (C := fun W => Below wr.heap.size wr W) (by kernel_rfl) (by kernel_rfl) (Below.refl _ _).drew ?_
        dsimp only
        try simp only [Act.put, List.setIfInBounds_toArray, List.set_cons_zero, List.set_cons_succ]
        go_big_quiet_want; go_big_quiet_op; first | go_big_quiet_on | (refine ⟨_, fun _ _ => rfl, ?_⟩; go_big_quiet_on)
        go_big_quiet_want; go_big_quiet_op; first | go_big_quiet_on | (refine ⟨_, fun _ _ => rfl, ?_⟩; go_big_quiet_on)
        go_big_quiet_want; go_big_quiet_op; first | go_big_quiet_on | (refine ⟨_, fun _ _ => rfl, ?_⟩; go_big_quiet_on)
        go_big_quiet_want; go_big_quiet_op; first | go_big_quiet_on | (refine ⟨_, fun _ _ => rfl, ?_⟩; go_big_quiet_on)
        go_big_quiet_want; refine ⟨.agg #[.int .i64 n0, .int .i64 n1, .int .i64 n2, .int .i64 n3, .int .i64 n4, .int .i64 n5, .int .i64 n6, .bool n7], fun W hW => (quietLoadCells 38 (.tmp 17) rfl B (o + k * 10) rfl [.int .i64 n0, .int .i64 n1, .int .i64 n2, .int .i64 n3, .int .i64 n4, .int .i64 n5, .int .i64 n6, .bool n7] (fun j v hv => (hW.cell (p := ⟨B, o + k * 10 + j, none⟩) lB).trans (HCn.out j v hv)) _ Tryz.underlying38 rfl (by kernel_rfl)), ?_⟩; simp only [Act.put, List.setIfInBounds_toArray, List.set_cons_zero, List.set_cons_succ]; go_big_quiet_on
        go_big_quiet_want; go_big_quiet_op; refine ⟨_, fun W hW => quietCall hW (HNk W).out, ?_⟩; go_big_quiet_on
        go_big_quiet_want; go_big_quiet_op; first | go_big_quiet_on | (refine ⟨_, fun _ _ => rfl, ?_⟩; go_big_quiet_on)
        go_big_quiet_want; go_big_quiet_op; first | go_big_quiet_on | (refine ⟨_, fun _ _ => rfl, ?_⟩; go_big_quiet_on)
        first | go_big_quiet_skip | (go_big_quiet_want; go_big_quiet_op; first | go_big_quiet_on | (refine ⟨_, fun _ _ => rfl, ?_⟩; go_big_quiet_on))
        first | go_big_quiet_skip | (go_big_quiet_want; go_big_quiet_op; first | go_big_quiet_on | (refine ⟨_, fun _ _ => rfl, ?_⟩; go_big_quiet_on))
        first | go_big_quiet_skip | (go_big_quiet_want; go_big_quiet_op; first | go_big_quiet_on | (refine ⟨_, fun _ _ => rfl, ?_⟩; go_big_quiet_on))
        first | go_big_quiet_skip | (go_big_quiet_want; go_big_quiet_op; first | go_big_quiet_on | (refine ⟨_, fun _ _ => rfl, ?_⟩; go_big_quiet_on))
        first | go_big_quiet_skip | (go_big_quiet_want; refine ⟨.int .i64 ad, fun W hW => (quietLoadOne 2 (.tmp 25) rfl B (o + k * 10 + 8) rfl (.int .i64 ad) ((hW.cell (p := ⟨B, o + k * 10 + 8, none⟩) lB).trans HCa.out) _ Tryz.underlying2 rfl), ?_⟩; simp only [Act.put, List.setIfInBounds_toArray, List.set_cons_zero, List.set_cons_succ]; go_big_quiet_on)
        first | go_big_quiet_skip | (go_big_quiet_want; go_big_quiet_op; refine ⟨_, fun W hW => (by have := quietSame hW (l05Addr_any ad W); rw [c1] at this; exact this), ?_⟩; go_big_quiet_on)
        first | go_big_quiet_skip | (go_big_quiet_want; go_big_quiet_op; first | go_big_quiet_on | (refine ⟨_, fun _ _ => rfl, ?_⟩; go_big_quiet_on))
        go_big_quiet_want; go_big_quiet_op; first | go_big_quiet_on | (refine ⟨_, fun _ _ => rfl, ?_⟩; go_big_quiet_on)
        go_big_quiet_want; go_big_quiet_op; first | go_big_quiet_on | (refine ⟨_, fun _ _ => rfl, ?_⟩; go_big_quiet_on)
        first | go_big_quiet_skip | (go_big_quiet_want; go_big_quiet_op; first | go_big_quiet_on | (refine ⟨_, fun _ _ => rfl, ?_⟩; go_big_quiet_on))
        first | go_big_quiet_skip | (go_big_quiet_want; go_big_quiet_op; first | go_big_quiet_on | (refine ⟨_, fun _ _ => rfl, ?_⟩; go_big_quiet_on))
        first | go_big_quiet_skip | (go_big_quiet_want; go_big_quiet_op; first | go_big_quiet_on | (refine ⟨_, fun _ _ => rfl, ?_⟩; go_big_quiet_on))
        first | go_big_quiet_skip | (go_big_quiet_want; go_big_quiet_op; first | go_big_quiet_on | (refine ⟨_, fun _ _ => rfl, ?_⟩; go_big_quiet_on))
        first | go_big_quiet_skip | (go_big_quiet_want; refine ⟨.int .i64 g, fun W hW => (quietLoadOne 2 (.tmp 34) rfl B (o + k * 10 + 9) rfl (.int .i64 g) ((hW.cell (p := ⟨B, o + k * 10 + 9, none⟩) lB).trans HCg.out) _ Tryz.underlying2 rfl), ?_⟩; simp only [Act.put, List.setIfInBounds_toArray, List.set_cons_zero, List.set_cons_succ]; go_big_quiet_on)
        first | go_big_quiet_skip | (go_big_quiet_want; go_big_quiet_op; refine ⟨_, fun W hW => (by have := quietSame hW (l02Is_any g 0 600 W); rw [c2] at this; exact this), ?_⟩; go_big_quiet_on)
        first | go_big_quiet_skip | (go_big_quiet_want; go_big_quiet_op; first | go_big_quiet_on | (refine ⟨_, fun _ _ => rfl, ?_⟩; go_big_quiet_on))
        go_big_quiet_want; go_big_quiet_op; first | go_big_quiet_on | (refine ⟨_, fun _ _ => rfl, ?_⟩; go_big_quiet_on)
        go_big_quiet_want; go_big_quiet_op; first | go_big_quiet_on | (refine ⟨_, fun _ _ => rfl, ?_⟩; go_big_quiet_on)
        first | go_big_quiet_skip | (go_big_quiet_want; go_big_quiet_op; first | go_big_quiet_on | (refine ⟨_, fun _ _ => rfl, ?_⟩; go_big_quiet_on))
        first | go_big_quiet_skip | (go_big_quiet_want; go_big_quiet_op; first | go_big_quiet_on | (refine ⟨_, fun _ _ => rfl, ?_⟩; go_big_quiet_on))
        first | go_big_quiet_skip | (go_big_quiet_want; go_big_quiet_op; first | go_big_quiet_on | (refine ⟨_, fun _ _ => rfl, ?_⟩; go_big_quiet_on))
        first | go_big_quiet_skip | (go_big_quiet_want; go_big_quiet_op; first | go_big_quiet_on | (refine ⟨_, fun _ _ => rfl, ?_⟩; go_big_quiet_on))
        first | go_big_quiet_skip | (go_big_quiet_want; go_big_quiet_op; first | go_big_quiet_on | (refine ⟨_, fun _ _ => rfl, ?_⟩; go_big_quiet_on))
        first | go_big_quiet_skip | (go_big_quiet_want; go_big_quiet_op; first | go_big_quiet_on | (refine ⟨_, fun _ _ => rfl, ?_⟩; go_big_quiet_on))
        first | go_big_quiet_skip | (go_big_quiet_want; go_big_quiet_op; first | go_big_quiet_on | (refine ⟨_, fun _ _ => rfl, ?_⟩; go_big_quiet_on))
        first | go_big_quiet_skip | (go_big_quiet_want; go_big_quiet_op; first | go_big_quiet_on | (refine ⟨_, fun _ _ => rfl, ?_⟩; go_big_quiet_on))
        first | go_big_quiet_skip | (go_big_quiet_want; refine ⟨.agg #[.int .i64 m0, .int .i64 m1, .int .i64 m2, .int .i64 m3, .int .i64 m4, .int .i64 m5, .int .i64 m6, .bool m7], fun W hW => (quietLoadCells 38 (.tmp 47) rfl B (o + q * 10) rfl [.int .i64 m0, .int .i64 m1, .int .i64 m2, .int .i64 m3, .int .i64 m4, .int .i64 m5, .int .i64 m6, .bool m7] (fun j v hv => (hW.cell (p := ⟨B, o + q * 10 + j, none⟩) lB).trans (HCm.out j v hv)) _ Tryz.underlying38 rfl (by kernel_rfl)), ?_⟩; simp only [Act.put, List.setIfInBounds_toArray, List.set_cons_zero, List.set_cons_succ]; go_big_quiet_on)
        first | go_big_quiet_skip | (go_big_quiet_want; go_big_quiet_op; first | go_big_quiet_on | (refine ⟨_, fun _ _ => rfl, ?_⟩; go_big_quiet_on))
        first | go_big_quiet_skip | (go_big_quiet_want; go_big_quiet_op; first | go_big_quiet_on | (refine ⟨_, fun _ _ => rfl, ?_⟩; go_big_quiet_on))
        first | go_big_quiet_skip | (go_big_quiet_want; go_big_quiet_op; first | go_big_quiet_on | (refine ⟨_, fun _ _ => rfl, ?_⟩; go_big_quiet_on))
        first | go_big_quiet_skip | (go_big_quiet_want; go_big_quiet_op; first | go_big_quiet_on | (refine ⟨_, fun _ _ => rfl, ?_⟩; go_big_quiet_on))
        first | go_big_quiet_skip | (go_big_quiet_want; refine ⟨.agg #[.int .i64 n0, .int .i64 n1, .int .i64 n2, .int .i64 n3, .int .i64 n4, .int .i64 n5, .int .i64 n6, .bool n7], fun W hW => (quietLoadCells 38 (.tmp 52) rfl B (o + k * 10) rfl [.int .i64 n0, .int .i64 n1, .int .i64 n2, .int .i64 n3, .int .i64 n4, .int .i64 n5, .int .i64 n6, .bool n7] (fun j v hv => (hW.cell (p := ⟨B, o + k * 10 + j, none⟩) lB).trans (HCn.out j v hv)) _ Tryz.underlying38 rfl (by kernel_rfl)), ?_⟩; simp only [Act.put, List.setIfInBounds_toArray, List.set_cons_zero, List.set_cons_succ]; go_big_quiet_on)
        first | go_big_quiet_skip | (go_big_quiet_want; go_big_quiet_op; refine ⟨_, fun W hW => quietCall hW (HLs W).out, ?_⟩; go_big_quiet_on)
        first | go_big_quiet_skip | (go_big_quiet_want; go_big_quiet_op; first | go_big_quiet_on | (refine ⟨_, fun _ _ => rfl, ?_⟩; go_big_quiet_on))
        first | go_big_quiet_skip | (go_big_quiet_want; go_big_quiet_op; first | go_big_quiet_on | (refine ⟨_, fun _ _ => rfl, ?_⟩; go_big_quiet_on))
        go_big_quiet_want; go_big_quiet_op; first | go_big_quiet_on | (refine ⟨_, fun _ _ => rfl, ?_⟩; go_big_quiet_on)
        refine wpQuiet_nil ?_
        intro wx hx
        go_wp2_with fail
        go_ret
        exact ⟨by rw [hv.out]; rfl, hb.trans (hx.mono hb.size)⟩
      by_cases m0 : k = 0
      · have e0 : decide ((0 : Int) < (k : Int)) = false := decide_eq_false (by omega)
        have e0n : decide (0 < k) = false := decide_eq_false (by omega)
        have HE2 := Lib.hid (show dvsAt l k = allR (fun t => !((dvAt l t).ad == ad)) k by rw [HE.out, c0, c1, c2, decide_eq_true m0]; simp)
        clear m0
        refine wp_region_quiet (C := fun W => Below wr.heap.size wr W) (by kernel_rfl) (by kernel_rfl) (Below.refl _ _).drew ?_
        dsimp only
        try simp only [Act.put, List.setIfInBounds_toArray, List.set_cons_zero, List.set_cons_succ]
        go_big_quiet_want; go_big_quiet_op; first | go_big_quiet_on | (refine ⟨_, fun _ _ => rfl, ?_⟩; go_big_quiet_on)
        go_big_quiet_want; go_big_quiet_op; first | go_big_quiet_on | (refine ⟨_, fun _ _ => rfl, ?_⟩; go_big_quiet_on)
        go_big_quiet_want; go_big_quiet_op; first | go_big_quiet_on | (refine ⟨_, fun _ _ => rfl, ?_⟩; go_big_quiet_on)
        go_big_quiet_want; go_big_quiet_op; first | go_big_quiet_on | (refine ⟨_, fun _ _ => rfl, ?_⟩; go_big_quiet_on)
        go_big_quiet_want; refine ⟨.agg #[.int .i64 n0, .int .i64 n1, .int .i64 n2, .int .i64 n3, .int .i64 n4, .int .i64 n5, .int .i64 n6, .bool n7], fun W hW => (quietLoadCells 38 (.tmp 17) rfl B (o + k * 10) rfl [.int .i64 n0, .int .i64 n1, .int .i64 n2, .int .i64 n3, .int .i64 n4, .int .i64 n5, .int .i64 n6, .bool n7] (fun j v hv => (hW.cell (p := ⟨B, o + k * 10 + j, none⟩) lB).trans (HCn.out j v hv)) _ Tryz.underlying38 rfl (by kernel_rfl)), ?_⟩; simp only [Act.put, List.setIfInBounds_toArray, List.set_cons_zero, List.set_cons_succ]; go_big_quiet_on
        go_big_quiet_want; go_big_quiet_op; refine ⟨_, fun W hW => quietCall hW (HNk W).out, ?_⟩; go_big_quiet_on
        go_big_quiet_want; go_big_quiet_op; first | go_big_quiet_on | (refine ⟨_, fun _ _ => rfl, ?_⟩; go_big_quiet_on)
        go_big_quiet_want; go_big_quiet_op; first | go_big_quiet_on | (refine ⟨_, fun _ _ => rfl, ?_⟩; go_big_quiet_on)
        first | go_big_quiet_skip | (go_big_quiet_want; go_big_quiet_op; first | go_big_quiet_on | (refine ⟨_, fun _ _ => rfl, ?_⟩; go_big_quiet_on))
        first | go_big_quiet_skip | (go_big_quiet_want; go_big_quiet_op; first | go_big_quiet_on | (refine ⟨_, fun _ _ => rfl, ?_⟩; go_big_quiet_on))
        first | go_big_quiet_skip | (go_big_quiet_want; go_big_quiet_op; first | go_big_quiet_on | (refine ⟨_, fun _ _ => rfl, ?_⟩; go_big_quiet_on))
        first | go_big_quiet_skip | (go_big_quiet_want; go_big_quiet_op; first | go_big_quiet_on | (refine ⟨_, fun _ _ => rfl, ?_⟩; go_big_quiet_on))
        first | go_big_quiet_skip | (go_big_quiet_want; refine ⟨.int .i64 ad, fun W hW => (quietLoadOne 2 (.tmp 25) rfl B (o + k * 10 + 8) rfl (.int .i64 ad) ((hW.cell (p := ⟨B, o + k * 10 + 8, none⟩) lB).trans HCa.out) _ Tryz.underlying2 rfl), ?_⟩; simp only [Act.put, List.setIfInBounds_toArray, List.set_cons_zero, List.set_cons_succ]; go_big_quiet_on)
        first | go_big_quiet_skip | (go_big_quiet_want; go_big_quiet_op; refine ⟨_, fun W hW => (by have := quietSame hW (l05Addr_any ad W); rw [c1] at this; exact this), ?_⟩; go_big_quiet_on)
        first | go_big_quiet_skip | (go_big_quiet_want; go_big_quiet_op; first | go_big_quiet_on | (refine ⟨_, fun _ _ => rfl, ?_⟩; go_big_quiet_on))
        go_big_quiet_want; go_big_quiet_op; first | go_big_quiet_on | (refine ⟨_, fun _ _ => rfl, ?_⟩; go_big_quiet_on)
        go_big_quiet_want; go_big_quiet_op; first | go_big_quiet_on | (refine ⟨_, fun _ _ => rfl, ?_⟩; go_big_quiet_on)
        first | go_big_quiet_skip | (go_big_quiet_want; go_big_quiet_op; first | go_big_quiet_on | (refine ⟨_, fun _ _ => rfl, ?_⟩; go_big_quiet_on))
        first | go_big_quiet_skip | (go_big_quiet_want; go_big_quiet_op; first | go_big_quiet_on | (refine ⟨_, fun _ _ => rfl, ?_⟩; go_big_quiet_on))
        first | go_big_quiet_skip | (go_big_quiet_want; go_big_quiet_op; first | go_big_quiet_on | (refine ⟨_, fun _ _ => rfl, ?_⟩; go_big_quiet_on))
        first | go_big_quiet_skip | (go_big_quiet_want; go_big_quiet_op; first | go_big_quiet_on | (refine ⟨_, fun _ _ => rfl, ?_⟩; go_big_quiet_on))
        first | go_big_quiet_skip | (go_big_quiet_want; refine ⟨.int .i64 g, fun W hW => (quietLoadOne 2 (.tmp 34) rfl B (o + k * 10 + 9) rfl (.int .i64 g) ((hW.cell (p := ⟨B, o + k * 10 + 9, none⟩) lB).trans HCg.out) _ Tryz.underlying2 rfl), ?_⟩; simp only [Act.put, List.setIfInBounds_toArray, List.set_cons_zero, List.set_cons_succ]; go_big_quiet_on)
        first | go_big_quiet_skip | (go_big_quiet_want; go_big_quiet_op; refine ⟨_, fun W hW => (by have := quietSame hW (l02Is_any g 0 600 W); rw [c2] at this; exact this), ?_⟩; go_big_quiet_on)
        first | go_big_quiet_skip | (go_big_quiet_want; go_big_quiet_op; first | go_big_quiet_on | (refine ⟨_, fun _ _ => rfl, ?_⟩; go_big_quiet_on))
        go_big_quiet_want; go_big_quiet_op; first | go_big_quiet_on | (refine ⟨_, fun _ _ => rfl, ?_⟩; go_big_quiet_on)
        go_big_quiet_want; go_big_quiet_op; first | go_big_quiet_on | (refine ⟨_, fun _ _ => rfl, ?_⟩; go_big_quiet_on)
        first | go_big_quiet_skip | (go_big_quiet_want; go_big_quiet_op; first | go_big_quiet_on | (refine ⟨_, fun _ _ => rfl, ?_⟩; go_big_quiet_on))
        first | go_big_quiet_skip | (go_big_quiet_want; go_big_quiet_op; first | go_big_quiet_on | (refine ⟨_, fun _ _ => rfl, ?_⟩; go_big_quiet_on))
        first | go_big_quiet_skip | (go_big_quiet_want; go_big_quiet_op; first | go_big_quiet_on | (refine ⟨_, fun _ _ => rfl, ?_⟩; go_big_quiet_on))
        first | go_big_quiet_skip | (go_big_quiet_want; go_big_quiet_op; first | go_big_quiet_on | (refine ⟨_, fun _ _ => rfl, ?_⟩; go_big_quiet_on))
        first | go_big_quiet_skip | (go_big_quiet_want; go_big_quiet_op; first | go_big_quiet_on | (refine ⟨_, fun _ _ => rfl, ?_⟩; go_big_quiet_on))
        first | go_big_quiet_skip | (go_big_quiet_want; go_big_quiet_op; first | go_big_quiet_on | (refine ⟨_, fun _ _ => rfl, ?_⟩; go_big_quiet_on))
        first | go_big_quiet_skip | (go_big_quiet_want; go_big_quiet_op; first | go_big_quiet_on | (refine ⟨_, fun _ _ => rfl, ?_⟩; go_big_quiet_on))
        first | go_big_quiet_skip | (go_big_quiet_want; go_big_quiet_op; first | go_big_quiet_on | (refine ⟨_, fun _ _ => rfl, ?_⟩; go_big_quiet_on))
        first | go_big_quiet_skip | (go_big_quiet_want; refine ⟨.agg #[.int .i64 m0, .int .i64 m1, .int .i64 m2, .int .i64 m3, .int .i64 m4, .int .i64 m5, .int .i64 m6, .bool m7], fun W hW => (quietLoadCells 38 (.tmp 47) rfl B (o + q * 10) rfl [.int .i64 m0, .int .i64 m1, .int .i64 m2, .int .i64 m3, .int .i64 m4, .int .i64 m5, .int .i64 m6, .bool m7] (fun j v hv => (hW.cell (p := ⟨B, o + q * 10 + j, none⟩) lB).trans (HCm.out j v hv)) _ Tryz.underlying38 rfl (by kernel_rfl)), ?_⟩; simp only [Act.put, List.setIfInBounds_toArray, List.set_cons_zero, List.set_cons_succ]; go_big_quiet_on)
        first | go_big_quiet_skip | (go_big_quiet_want; go_big_quiet_op; first | go_big_quiet_on | (refine ⟨_, fun _ _ => rfl, ?_⟩; go_big_quiet_on))
        first | go_big_quiet_skip | (go_big_quiet_want; go_big_quiet_op; first | go_big_quiet_on | (refine ⟨_, fun _ _ => rfl, ?_⟩; go_big_quiet_on))
        first | go_big_quiet_skip | (go_big_quiet_want; go_big_quiet_op; first | go_big_quiet_on | (refine ⟨_, fun _ _ => rfl, ?_⟩; go_big_quiet_on))
        first | go_big_quiet_skip | (go_big_quiet_want; go_big_quiet_op; first | go_big_quiet_on | (refine ⟨_, fun _ _ => rfl, ?_⟩; go_big_quiet_on))
        first | go_big_quiet_skip | (go_big_quiet_want; refine ⟨.agg #[.int .i64 n0, .int .i64 n1, .int .i64 n2, .int .i64 n3, .int .i64 n4, .int .i64 n5, .int .i64 n6, .bool n7], fun W hW => (quietLoadCells 38 (.tmp 52) rfl B (o + k * 10) rfl [.int .i64 n0, .int .i64 n1, .int .i64 n2, .int .i64 n3, .int .i64 n4, .int .i64 n5, .int .i64 n6, .bool n7] (fun j v hv => (hW.cell (p := ⟨B, o + k * 10 + j, none⟩) lB).trans (HCn.out j v hv)) _ Tryz.underlying38 rfl (by kernel_rfl)), ?_⟩; simp only [Act.put, List.setIfInBounds_toArray, List.set_cons_zero, List.set_cons_succ]; go_big_quiet_on)
        first | go_big_quiet_skip | (go_big_quiet_want; go_big_quiet_op; refine ⟨_, fun W hW => quietCall hW (HLs W).out, ?_⟩; go_big_quiet_on)
        first | go_big_quiet_skip | (go_big_quiet_want; go_big_quiet_op; first | go_big_quiet_on | (refine ⟨_, fun _ _ => rfl, ?_⟩; go_big_quiet_on))
        first | go_big_quiet_skip | (go_big_quiet_want; go_big_quiet_op; first | go_big_quiet_on | (refine ⟨_, fun _ _ => rfl, ?_⟩; go_big_quiet_on))
        go_big_quiet_want; go_big_quiet_op; first | go_big_quiet_on | (refine ⟨_, fun _ _ => rfl, ?_⟩; go_big_quiet_on)
        refine wpQuiet_nil ?_
        intro wx hx
        go_wp2_with fail
        have HB2 := Lib.hid (hb.trans (hx.mono hb.size))
        have HCk := Lib.hid (show wr.cell? ⟨B, o + k * 10 + 8, none⟩ = some (.int .i64 ad) from HCa.out)
        have HX2 := Lib.hid hx
        clear hx
        go_loopw [4] (fun i wz => ∃ m : Nat, i = .int .i64 (m : Int) ∧ m ≤ k ∧ (∀ t, t < m → (!((dvAt l t).ad == ad)) = true) ∧ Below wx.heap.size wx wz) (fun i _ => k - (intOf i).toNat)
        case atStart => exact ⟨0, rfl, by omega, fun j hj => absurd hj (by omega), Below.refl _ _⟩
        case round =>
          obtain ⟨m, rfl, hm, hall, hz⟩ := hrel
          have HM := Lib.hid hall
          clear hall
          rename World => wz
          by_cases hmk : m < k
          · have hj1 : (0 : Int) ≤ (m : Int) := by omega
            have hj2 : (m : Int) < (N : Int) := by omega
            have hj3 : (m : Int) < (k : Int) := by omega
            have hz2 := HB2.out.trans (hz.mono HB2.out.size)
            have lz : B < wz.heap.size := Nat.lt_of_lt_of_le hlt hz2.size
            have HD := Lib.hid (show wz.cell? ⟨B, o + m * 10 + 8, none⟩ = some (.int .i64 (dvAt l m).ad) from (hz2.cell (p := ⟨B, _, none⟩) hlt).trans (HCw.out m _ (dvAt_some (by have := HN.out; omega)) 8 _ rfl))
            have HDk := Lib.hid (show wz.cell? ⟨B, o + k * 10 + 8, none⟩ = some (.int .i64 ad) from ((HX2.out.trans (hz.mono HX2.out.size)).cell (p := ⟨B, _, none⟩) lB).trans HCk.out)
            have HP := Lib.hid (show (dvAt l m).ad = (dvAt l m).ad from rfl)
            go_wp2_with fail
            by_cases had : (dvAt l m).ad = ad
            · have hv := Lib.hid (HNo.out (by rw [HE2.out]; exact allR_no hmk (by simp [had])))
              have hab : ((dvAt l m).ad == ad) = true := by simp [had]
              clear had HP
              generalize (dvAt l m).ad = pa at HD hab
              refine wp_region_quiet (C := fun W => Below wz.heap.size wz W) (by kernel_rfl) (by kernel_rfl) (Below.refl _ _).drew ?_
              dsimp only
              try simp only [Act.put, List.setIfInBounds_toArray, List.set_cons_zero, List.set_cons_succ]
              go_big_quiet_want; go_big_quiet_op; first | go_big_quiet_on | (refine ⟨_, fun _ _ => rfl, ?_⟩; go_big_quiet_on)
              go_big_quiet_want; go_big_quiet_op; first | go_big_quiet_on | (refine ⟨_, fun _ _ => rfl, ?_⟩; go_big_quiet_on)
              go_big_quiet_want; go_big_quiet_op; first | go_big_quiet_on | (refine ⟨_, fun _ _ => rfl, ?_⟩; go_big_quiet_on)
              go_big_quiet_want; go_big_quiet_op; first | go_big_quiet_on | (refine ⟨_, fun _ _ => rfl, ?_⟩; go_big_quiet_on)
              go_big_quiet_want; refine ⟨.int .i64 pa, fun W hW => (quietLoadOne 2 (.tmp 66) rfl B (o + m * 10 + 8) rfl (.int .i64 pa) ((hW.cell (p := ⟨B, o + m * 10 + 8, none⟩) lz).trans HD.out) _ Tryz.underlying2 rfl), ?_⟩; simp only [Act.put, List.setIfInBounds_toArray, List.set_cons_zero, List.set_cons_succ]; go_big_quiet_on
              go_big_quiet_want; go_big_quiet_op; first | go_big_quiet_on | (refine ⟨_, fun _ _ => rfl, ?_⟩; go_big_quiet_on)
              go_big_quiet_want; go_big_quiet_op; first | go_big_quiet_on | (refine ⟨_, fun _ _ => rfl, ?_⟩; go_big_quiet_on)
              go_big_quiet_want; go_big_quiet_op; first | go_big_quiet_on | (refine ⟨_, fun _ _ => rfl, ?_⟩; go_big_quiet_on)
              go_big_quiet_want; go_big_quiet_op; first | go_big_quiet_on | (refine ⟨_, fun _ _ => rfl, ?_⟩; go_big_quiet_on)
              go_big_quiet_want; refine ⟨.int .i64 ad, fun W hW => (quietLoadOne 2 (.tmp 71) rfl B (o + k * 10 + 8) rfl (.int .i64 ad) ((hW.cell (p := ⟨B, o + k * 10 + 8, none⟩) lz).trans HDk.out) _ Tryz.underlying2 rfl), ?_⟩; simp only [Act.put, List.setIfInBounds_toArray, List.set_cons_zero, List.set_cons_succ]; go_big_quiet_on
              go_big_quiet_want; go_big_quiet_op; first | go_big_quiet_on | (refine ⟨_, fun _ _ => rfl, ?_⟩; go_big_quiet_on)
              refine wpQuiet_nil ?_
              intro X hX
              go_wp2_with fail
              go_ret
              exact ⟨by rw [hv.out]; rfl, hz2.trans (hX.mono hz2.size)⟩
            · have HT := Lib.hid (show (!((dvAt l m).ad == ad)) = true by simp [had])
              have hab : ((dvAt l m).ad == ad) = false := by simp [had]
              clear had HP
              generalize (dvAt l m).ad = pa at HD hab
              refine wp_region_quiet (C := fun W => Below wz.heap.size wz W) (by kernel_rfl) (by kernel_rfl) (Below.refl _ _).drew ?_
              dsimp only
              try simp only [Act.put, List.setIfInBounds_toArray, List.set_cons_zero, List.set_cons_succ]
              go_big_quiet_want; go_big_quiet_op; first | go_big_quiet_on | (refine ⟨_, fun _ _ => rfl, ?_⟩; go_big_quiet_on)
              go_big_quiet_want; go_big_quiet_op; first | go_big_quiet_on | (refine ⟨_, fun _ _ => rfl, ?_⟩; go_big_quiet_on)
              go_big_quiet_want; go_big_quiet_op; first | go_big_quiet_on | (refine ⟨_, fun _ _ => rfl, ?_⟩; go_big_quiet_on)
              go_big_quiet_want; go_big_quiet_op; first | go_big_quiet_on | (refine ⟨_, fun _ _ => rfl, ?_⟩; go_big_quiet_on)
              go_big_quiet_want; refine ⟨.int .i64 pa, fun W hW => (quietLoadOne 2 (.tmp 66) rfl B (o + m * 10 + 8) rfl (.int .i64 pa) ((hW.cell (p := ⟨B, o + m * 10 + 8, none⟩) lz).trans HD.out) _ Tryz.underlying2 rfl), ?_⟩; simp only [Act.put, List.setIfInBounds_toArray, List.set_cons_zero, List.set_cons_succ]; go_big_quiet_on
              go_big_quiet_want; go_big_quiet_op; first | go_big_quiet_on | (refine ⟨_, fun _ _ => rfl, ?_⟩; go_big_quiet_on)
              go_big_quiet_want; go_big_quiet_op; first | go_big_quiet_on | (refine ⟨_, fun _ _ => rfl, ?_⟩; go_big_quiet_on)
              go_big_quiet_want; go_big_quiet_op; first | go_big_quiet_on | (refine ⟨_, fun _ _ => rfl, ?_⟩; go_big_quiet_on)
              go_big_quiet_want; go_big_quiet_op; first | go_big_quiet_on | (refine ⟨_, fun _ _ => rfl, ?_⟩; go_big_quiet_on)
              go_big_quiet_want; refine ⟨.int .i64 ad, fun W hW => (quietLoadOne 2 (.tmp 71) rfl B (o + k * 10 + 8) rfl (.int .i64 ad) ((hW.cell (p := ⟨B, o + k * 10 + 8, none⟩) lz).trans HDk.out) _ Tryz.underlying2 rfl), ?_⟩; simp only [Act.put, List.setIfInBounds_toArray, List.set_cons_zero, List.set_cons_succ]; go_big_quiet_on
              go_big_quiet_want; go_big_quiet_op; first | go_big_quiet_on | (refine ⟨_, fun _ _ => rfl, ?_⟩; go_big_quiet_on)
              refine wpQuiet_nil ?_
              intro X hX
              go_wp2_with fail
              go_roundw
              case rel => exact ⟨m + 1, by go_num, by omega, fun j hj => (Nat.lt_or_ge j m).elim (HM.out j) (fun g => (show j = m by omega) ▸ HT.out), hz.trans (hX.mono hz.size)⟩
              case measure => simp [intOf]; omega
          · have hj3 : ¬ (m : Int) < (k : Int) := by omega
            have hmf : decide (m < k) = false := decide_eq_false (by omega)
            have hmf2 : decide ((m : Int) < (k : Int)) = false := decide_eq_false (by omega)
            have HT := Lib.hid (show dvsAt l k = true by rw [HE2.out]; exact allR_yes (fun t ht => HM.out t (by omega)))
            have hz2 := HB2.out.trans (hz.mono HB2.out.size)
            go_wp2_with fail
            go_roundw
            case rel => exact ⟨k + 1, by go_num, by omega, fun j hj => (Nat.lt_or_ge j k).elim (HA.out j) (fun g => (show j = k by omega) ▸ HT.out), hz2⟩
            case measure => simp [intOf]; omega
      · obtain ⟨q, hq⟩ : ∃ q, k = q + 1 := ⟨k - 1, by omega⟩
        have e0 : decide ((0 : Int) < (k : Int)) = true := decide_eq_true (by omega)
        have e0n : decide (0 < k) = true := decide_eq_true (by omega)
        have p0 : 0 < k := by omega
        have e1 : IntKind.i64.wrap ((k : Int) - 1) = (q : Int) := by rw [IntWalk.i64_in _ (by omega)]; omega
        have hm1 : (0 : Int) ≤ (q : Int) := by omega
        have hm2 : (q : Int) < (N : Int) := by omega
        have HPo2 := HPo.out (by omega)
        rw [show k - 1 = q by omega, decide_eq_false m0] at HE
        rw [show k - 1 = q by omega] at HPo2
        have HCp := Lib.hid (fun j v hv => (hb.cell (p := ⟨B, _, none⟩) hlt).trans (HCw.out q _ (dvAt_some (by omega)) j v hv))
        have HLs := fun W => Lib.hid (l04Less_any (dvAt l q).n ⟨n0, n1, n2, n3, n4, n5, n6, n7⟩ W HPo2 c0)
        have HLB := Lib.hid (show nmLessB (dvAt l q).n ⟨n0, n1, n2, n3, n4, n5, n6, n7⟩ = decide (nmN (dvAt l q).n < nmN ⟨n0, n1, n2, n3, n4, n5, n6, n7⟩) by unfold nmLessB; rw [HPo2, c0]; rfl)
        rw [HLB.out] at HE
        clear HLB HPo2 HPo hq m0
        generalize dvAt l q = z at HCp HLs HE
        obtain ⟨⟨m0, m1, m2, m3, m4, m5, m6, m7⟩, yad, yg⟩ := z
        unfold dvL at HCp
        unfold nmV at HLs
        dsimp only at HCp HLs HE
        have HCm := Lib.hid (show ∀ (j : Nat) v, ([.int .i64 m0, .int .i64 m1, .int .i64 m2, .int .i64 m3, .int .i64 m4, .int .i64 m5, .int .i64 m6, .bool m7] : List Value)[j]? = some v → wr.cell? ⟨B, o + q * 10 + j, none⟩ = some v from fun j v hv => HCp.out j v (dv_nm m0 m1 m2 m3 m4 m5 m6 m7 yad yg j v hv))
        clear HCp
        generalize decide (nmN ⟨m0, m1, m2, m3, m4, m5, m6, m7⟩ < nmN ⟨n0, n1, n2, n3, n4, n5, n6, n7⟩) = Ls at HLs HE
        rcases Ls with _ | _
        · have hv := Lib.hid (HNo.out (by rw [HE.out, c0, c1, c2]; rfl))
          refine wp_region_quiet (C := fun W => Below wr.heap.size wr W) (by kernel_rfl) (by kernel_rfl) (Below.refl _ _).drew ?_
          dsimp only
          try simp only [Act.put, List.setIfInBounds_toArray, List.set_cons_zero, List.set_cons_succ]
          go_big_quiet_want; go_big_quiet_op; first | go_big_quiet_on | (refine ⟨_, fun _ _ => rfl, ?_⟩; go_big_quiet_on)
          go_big_quiet_want; go_big_quiet_op; first | go_big_quiet_on | (refine ⟨_, fun _ _ => rfl, ?_⟩; go_big_quiet_on)
          go_big_quiet_want; go_big_quiet_op; first | go_big_quiet_on | (refine ⟨_, fun _ _ => rfl, ?_⟩; go_big_quiet_on)
          go_big_quiet_want; go_big_quiet_op; first | go_big_quiet_on | (refine ⟨_, fun _ _ => rfl, ?_⟩; go_big_quiet_on)
          go_big_quiet_want; refine ⟨.agg #[.int .i64 n0, .int .i64 n1, .int .i64 n2, .int .i64 n3, .int .i64 n4, .int .i64 n5, .int .i64 n6, .bool n7], fun W hW => (quietLoadCells 38 (.tmp 17) rfl B (o + k * 10) rfl [.int .i64 n0, .int .i64 n1, .int .i64 n2, .int .i64 n3, .int .i64 n4, .int .i64 n5, .int .i64 n6, .bool n7] (fun j v hv => (hW.cell (p := ⟨B, o + k * 10 + j, none⟩) lB).trans (HCn.out j v hv)) _ Tryz.underlying38 rfl (by kernel_rfl)), ?_⟩; simp only [Act.put, List.setIfInBounds_toArray, List.set_cons_zero, List.set_cons_succ]; go_big_quiet_on
          go_big_quiet_want; go_big_quiet_op; refine ⟨_, fun W hW => quietCall hW (HNk W).out, ?_⟩; go_big_quiet_on
          go_big_quiet_want; go_big_quiet_op; first | go_big_quiet_on | (refine ⟨_, fun _ _ => rfl, ?_⟩; go_big_quiet_on)
          go_big_quiet_want; go_big_quiet_op; first | go_big_quiet_on | (refine ⟨_, fun _ _ => rfl, ?_⟩; go_big_quiet_on)
          first | go_big_quiet_skip | (go_big_quiet_want; go_big_quiet_op; first | go_big_quiet_on | (refine ⟨_, fun _ _ => rfl, ?_⟩; go_big_quiet_on))
          first | go_big_quiet_skip | (go_big_quiet_want; go_big_quiet_op; first | go_big_quiet_on | (refine ⟨_, fun _ _ => rfl, ?_⟩; go_big_quiet_on))
          first | go_big_quiet_skip | (go_big_quiet_want; go_big_quiet_op; first | go_big_quiet_on | (refine ⟨_, fun _ _ => rfl, ?_⟩; go_big_quiet_on))
          first | go_big_quiet_skip | (go_big_quiet_want; go_big_quiet_op; first | go_big_quiet_on | (refine ⟨_, fun _ _ => rfl, ?_⟩; go_big_quiet_on))
          first | go_big_quiet_skip | (go_big_quiet_want; refine ⟨.int .i64 ad, fun W hW => (quietLoadOne 2 (.tmp 25) rfl B (o + k * 10 + 8) rfl (.int .i64 ad) ((hW.cell (p := ⟨B, o + k * 10 + 8, none⟩) lB).trans HCa.out) _ Tryz.underlying2 rfl), ?_⟩; simp only [Act.put, List.setIfInBounds_toArray, List.set_cons_zero, List.set_cons_succ]; go_big_quiet_on)
          first | go_big_quiet_skip | (go_big_quiet_want; go_big_quiet_op; refine ⟨_, fun W hW => (by have := quietSame hW (l05Addr_any ad W); rw [c1] at this; exact this), ?_⟩; go_big_quiet_on)
          first | go_big_quiet_skip | (go_big_quiet_want; go_big_quiet_op; first | go_big_quiet_on | (refine ⟨_, fun _ _ => rfl, ?_⟩; go_big_quiet_on))
          go_big_quiet_want; go_big_quiet_op; first | go_big_quiet_on | (refine ⟨_, fun _ _ => rfl, ?_⟩; go_big_quiet_on)
          go_big_quiet_want; go_big_quiet_op; first | go_big_quiet_on | (refine ⟨_, fun _ _ => rfl, ?_⟩; go_big_quiet_on)
          first | go_big_quiet_skip | (go_big_quiet_want; go_big_quiet_op; first | go_big_quiet_on | (refine ⟨_, fun _ _ => rfl, ?_⟩; go_big_quiet_on))
          first | go_big_quiet_skip | (go_big_quiet_want; go_big_quiet_op; first | go_big_quiet_on | (refine ⟨_, fun _ _ => rfl, ?_⟩; go_big_quiet_on))
          first | go_big_quiet_skip | (go_big_quiet_want; go_big_quiet_op; first | go_big_quiet_on | (refine ⟨_, fun _ _ => rfl, ?_⟩; go_big_quiet_on))
          first | go_big_quiet_skip | (go_big_quiet_want; go_big_quiet_op; first | go_big_quiet_on | (refine ⟨_, fun _ _ => rfl, ?_⟩; go_big_quiet_on))
          first | go_big_quiet_skip | (go_big_quiet_want; refine ⟨.int .i64 g, fun W hW => (quietLoadOne 2 (.tmp 34) rfl B (o + k * 10 + 9) rfl (.int .i64 g) ((hW.cell (p := ⟨B, o + k * 10 + 9, none⟩) lB).trans HCg.out) _ Tryz.underlying2 rfl), ?_⟩; simp only [Act.put, List.setIfInBounds_toArray, List.set_cons_zero, List.set_cons_succ]; go_big_quiet_on)
          first | go_big_quiet_skip | (go_big_quiet_want; go_big_quiet_op; refine ⟨_, fun W hW => (by have := quietSame hW (l02Is_any g 0 600 W); rw [c2] at this; exact this), ?_⟩; go_big_quiet_on)
          first | go_big_quiet_skip | (go_big_quiet_want; go_big_quiet_op; first | go_big_quiet_on | (refine ⟨_, fun _ _ => rfl, ?_⟩; go_big_quiet_on))
          go_big_quiet_want; go_big_quiet_op; first | go_big_quiet_on | (refine ⟨_, fun _ _ => rfl, ?_⟩; go_big_quiet_on)
          go_big_quiet_want; go_big_quiet_op; first | go_big_quiet_on | (refine ⟨_, fun _ _ => rfl, ?_⟩; go_big_quiet_on)
          first | go_big_quiet_skip | (go_big_quiet_want; go_big_quiet_op; first | go_big_quiet_on | (refine ⟨_, fun _ _ => rfl, ?_⟩; go_big_quiet_on))
          first | go_big_quiet_skip | (go_big_quiet_want; go_big_quiet_op; first | go_big_quiet_on | (refine ⟨_, fun _ _ => rfl, ?_⟩; go_big_quiet_on))
          first | go_big_quiet_skip | (go_big_quiet_want; go_big_quiet_op; first | go_big_quiet_on | (refine ⟨_, fun _ _ => rfl, ?_⟩; go_big_quiet_on))
          first | go_big_quiet_skip | (go_big_quiet_want; go_big_quiet_op; first | go_big_quiet_on | (refine ⟨_, fun _ _ => rfl, ?_⟩; go_big_quiet_on))
          first | go_big_quiet_skip | (go_big_quiet_want; go_big_quiet_op; first | go_big_quiet_on | (refine ⟨_, fun _ _ => rfl, ?_⟩; go_big_quiet_on))
          first | go_big_quiet_skip | (go_big_quiet_want; go_big_quiet_op; first | go_big_quiet_on | (refine ⟨_, fun _ _ => rfl, ?_⟩; go_big_quiet_on))
          first | go_big_quiet_skip | (go_big_quiet_want; go_big_quiet_op; first | go_big_quiet_on | (refine ⟨_, fun _ _ => rfl, ?_⟩; go_big_quiet_on))
          first | go_big_quiet_skip | (go_big_quiet_want; go_big_quiet_op; first | go_big_quiet_on | (refine ⟨_, fun _ _ => rfl, ?_⟩; go_big_quiet_on))
          first | go_big_quiet_skip | (go_big_quiet_want; refine ⟨.agg #[.int .i64 m0, .int .i64 m1, .int .i64 m2, .int .i64 m3, .int .i64 m4, .int .i64 m5, .int .i64 m6, .bool m7], fun W hW => (quietLoadCells 38 (.tmp 47) rfl B (o + q * 10) rfl [.int .i64 m0, .int .i64 m1, .int .i64 m2, .int .i64 m3, .int .i64 m4, .int .i64 m5, .int .i64 m6, .bool m7] (fun j v hv => (hW.cell (p := ⟨B, o + q * 10 + j, none⟩) lB).trans (HCm.out j v hv)) _ Tryz.underlying38 rfl (by kernel_rfl)), ?_⟩; simp only [Act.put, List.setIfInBounds_toArray, List.set_cons_zero, List.set_cons_succ]; go_big_quiet_on)
          first | go_big_quiet_skip | (go_big_quiet_want; go_big_quiet_op; first | go_big_quiet_on | (refine ⟨_, fun _ _ => rfl, ?_⟩; go_big_quiet_on))
          first | go_big_quiet_skip | (go_big_quiet_want; go_big_quiet_op; first | go_big_quiet_on | (refine ⟨_, fun _ _ => rfl, ?_⟩; go_big_quiet_on))
          first | go_big_quiet_skip | (go_big_quiet_want; go_big_quiet_op; first | go_big_quiet_on | (refine ⟨_, fun _ _ => rfl, ?_⟩; go_big_quiet_on))
          first | go_big_quiet_skip | (go_big_quiet_want; go_big_quiet_op; first | go_big_quiet_on | (refine ⟨_, fun _ _ => rfl, ?_⟩; go_big_quiet_on))
          first | go_big_quiet_skip | (go_big_quiet_want; refine ⟨.agg #[.int .i64 n0, .int .i64 n1, .int .i64 n2, .int .i64 n3, .int .i64 n4, .int .i64 n5, .int .i64 n6, .bool n7], fun W hW => (quietLoadCells 38 (.tmp 52) rfl B (o + k * 10) rfl [.int .i64 n0, .int .i64 n1, .int .i64 n2, .int .i64 n3, .int .i64 n4, .int .i64 n5, .int .i64 n6, .bool n7] (fun j v hv => (hW.cell (p := ⟨B, o + k * 10 + j, none⟩) lB).trans (HCn.out j v hv)) _ Tryz.underlying38 rfl (by kernel_rfl)), ?_⟩; simp only [Act.put, List.setIfInBounds_toArray, List.set_cons_zero, List.set_cons_succ]; go_big_quiet_on)
          first | go_big_quiet_skip | (go_big_quiet_want; go_big_quiet_op; refine ⟨_, fun W hW => quietCall hW (HLs W).out, ?_⟩; go_big_quiet_on)
          first | go_big_quiet_skip | (go_big_quiet_want; go_big_quiet_op; first | go_big_quiet_on | (refine ⟨_, fun _ _ => rfl, ?_⟩; go_big_quiet_on))
          first | go_big_quiet_skip | (go_big_quiet_want; go_big_quiet_op; first | go_big_quiet_on | (refine ⟨_, fun _ _ => rfl, ?_⟩; go_big_quiet_on))
          go_big_quiet_want; go_big_quiet_op; first | go_big_quiet_on | (refine ⟨_, fun _ _ => rfl, ?_⟩; go_big_quiet_on)
          refine wpQuiet_nil ?_
          intro wx hx
          go_wp2_with fail
          go_ret
          exact ⟨by rw [hv.out]; rfl, hb.trans (hx.mono hb.size)⟩
        · have HE2 := Lib.hid (show dvsAt l k = allR (fun t => !((dvAt l t).ad == ad)) k by rw [HE.out, c0, c1, c2]; simp)
          refine wp_region_quiet (C := fun W => Below wr.heap.size wr W) (by kernel_rfl) (by kernel_rfl) (Below.refl _ _).drew ?_
          dsimp only
          try simp only [Act.put, List.setIfInBounds_toArray, List.set_cons_zero, List.set_cons_succ]
          go_big_quiet_want; go_big_quiet_op; first | go_big_quiet_on | (refine ⟨_, fun _ _ => rfl, ?_⟩; go_big_quiet_on)
          go_big_quiet_want; go_big_quiet_op; first | go_big_quiet_on | (refine ⟨_, fun _ _ => rfl, ?_⟩; go_big_quiet_on)
          go_big_quiet_want; go_big_quiet_op; first | go_big_quiet_on | (refine ⟨_, fun _ _ => rfl, ?_⟩; go_big_quiet_on)
          go_big_quiet_want; go_big_quiet_op; first | go_big_quiet_on | (refine ⟨_, fun _ _ => rfl, ?_⟩; go_big_quiet_on)
          go_big_quiet_want; refine ⟨.agg #[.int .i64 n0, .int .i64 n1, .int .i64 n2, .int .i64 n3, .int .i64 n4, .int .i64 n5, .int .i64 n6, .bool n7], fun W hW => (quietLoadCells 38 (.tmp 17) rfl B (o + k * 10) rfl [.int .i64 n0, .int .i64 n1, .int .i64 n2, .int .i64 n3, .int .i64 n4, .int .i64 n5, .int .i64 n6, .bool n7] (fun j v hv => (hW.cell (p := ⟨B, o + k * 10 + j, none⟩) lB).trans (HCn.out j v hv)) _ Tryz.underlying38 rfl (by kernel_rfl)), ?_⟩; simp only [Act.put, List.setIfInBounds_toArray, List.set_cons_zero, List.set_cons_succ]; go_big_quiet_on
          go_big_quiet_want; go_big_quiet_op; refine ⟨_, fun W hW => quietCall hW (HNk W).out, ?_⟩; go_big_quiet_on
          go_big_quiet_want; go_big_quiet_op; first | go_big_quiet_on | (refine ⟨_, fun _ _ => rfl, ?_⟩; go_big_quiet_on)
          go_big_quiet_want; go_big_quiet_op; first | go_big_quiet_on | (refine ⟨_, fun _ _ => rfl, ?_⟩; go_big_quiet_on)
          first | go_big_quiet_skip | (go_big_quiet_want; go_big_quiet_op; first | go_big_quiet_on | (refine ⟨_, fun _ _ => rfl, ?_⟩; go_big_quiet_on))
          first | go_big_quiet_skip | (go_big_quiet_want; go_big_quiet_op; first | go_big_quiet_on | (refine ⟨_, fun _ _ => rfl, ?_⟩; go_big_quiet_on))
          first | go_big_quiet_skip | (go_big_quiet_want; go_big_quiet_op; first | go_big_quiet_on | (refine ⟨_, fun _ _ => rfl, ?_⟩; go_big_quiet_on))
          first | go_big_quiet_skip | (go_big_quiet_want; go_big_quiet_op; first | go_big_quiet_on | (refine ⟨_, fun _ _ => rfl, ?_⟩; go_big_quiet_on))
          first | go_big_quiet_skip | (go_big_quiet_want; refine ⟨.int .i64 ad, fun W hW => (quietLoadOne 2 (.tmp 25) rfl B (o + k * 10 + 8) rfl (.int .i64 ad) ((hW.cell (p := ⟨B, o + k * 10 + 8, none⟩) lB).trans HCa.out) _ Tryz.underlying2 rfl), ?_⟩; simp only [Act.put, List.setIfInBounds_toArray, List.set_cons_zero, List.set_cons_succ]; go_big_quiet_on)
          first | go_big_quiet_skip | (go_big_quiet_want; go_big_quiet_op; refine ⟨_, fun W hW => (by have := quietSame hW (l05Addr_any ad W); rw [c1] at this; exact this), ?_⟩; go_big_quiet_on)
          first | go_big_quiet_skip | (go_big_quiet_want; go_big_quiet_op; first | go_big_quiet_on | (refine ⟨_, fun _ _ => rfl, ?_⟩; go_big_quiet_on))
          go_big_quiet_want; go_big_quiet_op; first | go_big_quiet_on | (refine ⟨_, fun _ _ => rfl, ?_⟩; go_big_quiet_on)
          go_big_quiet_want; go_big_quiet_op; first | go_big_quiet_on | (refine ⟨_, fun _ _ => rfl, ?_⟩; go_big_quiet_on)
          first | go_big_quiet_skip | (go_big_quiet_want; go_big_quiet_op; first | go_big_quiet_on | (refine ⟨_, fun _ _ => rfl, ?_⟩; go_big_quiet_on))
          first | go_big_quiet_skip | (go_big_quiet_want; go_big_quiet_op; first | go_big_quiet_on | (refine ⟨_, fun _ _ => rfl, ?_⟩; go_big_quiet_on))
          first | go_big_quiet_skip | (go_big_quiet_want; go_big_quiet_op; first | go_big_quiet_on | (refine ⟨_, fun _ _ => rfl, ?_⟩; go_big_quiet_on))
          first | go_big_quiet_skip | (go_big_quiet_want; go_big_quiet_op; first | go_big_quiet_on | (refine ⟨_, fun _ _ => rfl, ?_⟩; go_big_quiet_on))
          first | go_big_quiet_skip | (go_big_quiet_want; refine ⟨.int .i64 g, fun W hW => (quietLoadOne 2 (.tmp 34) rfl B (o + k * 10 + 9) rfl (.int .i64 g) ((hW.cell (p := ⟨B, o + k * 10 + 9, none⟩) lB).trans HCg.out) _ Tryz.underlying2 rfl), ?_⟩; simp only [Act.put, List.setIfInBounds_toArray, List.set_cons_zero, List.set_cons_succ]; go_big_quiet_on)
          first | go_big_quiet_skip | (go_big_quiet_want; go_big_quiet_op; refine ⟨_, fun W hW => (by have := quietSame hW (l02Is_any g 0 600 W); rw [c2] at this; exact this), ?_⟩; go_big_quiet_on)
          first | go_big_quiet_skip | (go_big_quiet_want; go_big_quiet_op; first | go_big_quiet_on | (refine ⟨_, fun _ _ => rfl, ?_⟩; go_big_quiet_on))
          go_big_quiet_want; go_big_quiet_op; first | go_big_quiet_on | (refine ⟨_, fun _ _ => rfl, ?_⟩; go_big_quiet_on)
          go_big_quiet_want; go_big_quiet_op; first | go_big_quiet_on | (refine ⟨_, fun _ _ => rfl, ?_⟩; go_big_quiet_on)
          first | go_big_quiet_skip | (go_big_quiet_want; go_big_quiet_op; first | go_big_quiet_on | (refine ⟨_, fun _ _ => rfl, ?_⟩; go_big_quiet_on))
          first | go_big_quiet_skip | (go_big_quiet_want; go_big_quiet_op; first | go_big_quiet_on | (refine ⟨_, fun _ _ => rfl, ?_⟩; go_big_quiet_on))
          first | go_big_quiet_skip | (go_big_quiet_want; go_big_quiet_op; first | go_big_quiet_on | (refine ⟨_, fun _ _ => rfl, ?_⟩; go_big_quiet_on))
          first | go_big_quiet_skip | (go_big_quiet_want; go_big_quiet_op; first | go_big_quiet_on | (refine ⟨_, fun _ _ => rfl, ?_⟩; go_big_quiet_on))
          first | go_big_quiet_skip | (go_big_quiet_want; go_big_quiet_op; first | go_big_quiet_on | (refine ⟨_, fun _ _ => rfl, ?_⟩; go_big_quiet_on))
          first | go_big_quiet_skip | (go_big_quiet_want; go_big_quiet_op; first | go_big_quiet_on | (refine ⟨_, fun _ _ => rfl, ?_⟩; go_big_quiet_on))
          first | go_big_quiet_skip | (go_big_quiet_want; go_big_quiet_op; first | go_big_quiet_on | (refine ⟨_, fun _ _ => rfl, ?_⟩; go_big_quiet_on))
          first | go_big_quiet_skip | (go_big_quiet_want; go_big_quiet_op; first | go_big_quiet_on | (refine ⟨_, fun _ _ => rfl, ?_⟩; go_big_quiet_on))
          first | go_big_quiet_skip | (go_big_quiet_want; refine ⟨.agg #[.int .i64 m0, .int .i64 m1, .int .i64 m2, .int .i64 m3, .int .i64 m4, .int .i64 m5, .int .i64 m6, .bool m7], fun W hW => (quietLoadCells 38 (.tmp 47) rfl B (o + q * 10) rfl [.int .i64 m0, .int .i64 m1, .int .i64 m2, .int .i64 m3, .int .i64 m4, .int .i64 m5, .int .i64 m6, .bool m7] (fun j v hv => (hW.cell (p := ⟨B, o + q * 10 + j, none⟩) lB).trans (HCm.out j v hv)) _ Tryz.underlying38 rfl (by kernel_rfl)), ?_⟩; simp only [Act.put, List.setIfInBounds_toArray, List.set_cons_zero, List.set_cons_succ]; go_big_quiet_on)
          first | go_big_quiet_skip | (go_big_quiet_want; go_big_quiet_op; first | go_big_quiet_on | (refine ⟨_, fun _ _ => rfl, ?_⟩; go_big_quiet_on))
          first | go_big_quiet_skip | (go_big_quiet_want; go_big_quiet_op; first | go_big_quiet_on | (refine ⟨_, fun _ _ => rfl, ?_⟩; go_big_quiet_on))
          first | go_big_quiet_skip | (go_big_quiet_want; go_big_quiet_op; first | go_big_quiet_on | (refine ⟨_, fun _ _ => rfl, ?_⟩; go_big_quiet_on))
          first | go_big_quiet_skip | (go_big_quiet_want; go_big_quiet_op; first | go_big_quiet_on | (refine ⟨_, fun _ _ => rfl, ?_⟩; go_big_quiet_on))
          first | go_big_quiet_skip | (go_big_quiet_want; refine ⟨.agg #[.int .i64 n0, .int .i64 n1, .int .i64 n2, .int .i64 n3, .int .i64 n4, .int .i64 n5, .int .i64 n6, .bool n7], fun W hW => (quietLoadCells 38 (.tmp 52) rfl B (o + k * 10) rfl [.int .i64 n0, .int .i64 n1, .int .i64 n2, .int .i64 n3, .int .i64 n4, .int .i64 n5, .int .i64 n6, .bool n7] (fun j v hv => (hW.cell (p := ⟨B, o + k * 10 + j, none⟩) lB).trans (HCn.out j v hv)) _ Tryz.underlying38 rfl (by kernel_rfl)), ?_⟩; simp only [Act.put, List.setIfInBounds_toArray, List.set_cons_zero, List.set_cons_succ]; go_big_quiet_on)
          first | go_big_quiet_skip | (go_big_quiet_want; go_big_quiet_op; refine ⟨_, fun W hW => quietCall hW (HLs W).out, ?_⟩; go_big_quiet_on)
          first | go_big_quiet_skip | (go_big_quiet_want; go_big_quiet_op; first | go_big_quiet_on | (refine ⟨_, fun _ _ => rfl, ?_⟩; go_big_quiet_on))
          first | go_big_quiet_skip | (go_big_quiet_want; go_big_quiet_op; first | go_big_quiet_on | (refine ⟨_, fun _ _ => rfl, ?_⟩; go_big_quiet_on))
          go_big_quiet_want; go_big_quiet_op; first | go_big_quiet_on | (refine ⟨_, fun _ _ => rfl, ?_⟩; go_big_quiet_on)
          refine wpQuiet_nil ?_
          intro wx hx
          go_wp2_with fail
          have HB2 := Lib.hid (hb.trans (hx.mono hb.size))
          have HCk := Lib.hid (show wr.cell? ⟨B, o + k * 10 + 8, none⟩ = some (.int .i64 ad) from HCa.out)
          have HX2 := Lib.hid hx
          clear hx
          go_loopw [4] (fun i wz => ∃ m : Nat, i = .int .i64 (m : Int) ∧ m ≤ k ∧ (∀ t, t < m → (!((dvAt l t).ad == ad)) = true) ∧ Below wx.heap.size wx wz) (fun i _ => k - (intOf i).toNat)
          case atStart => exact ⟨0, rfl, by omega, fun j hj => absurd hj (by omega), Below.refl _ _⟩
          case round =>
            obtain ⟨m, rfl, hm, hall, hz⟩ := hrel
            have HM := Lib.hid hall
            clear hall
            rename World => wz
            by_cases hmk : m < k
            · have hj1 : (0 : Int) ≤ (m : Int) := by omega
              have hj2 : (m : Int) < (N : Int) := by omega
              have hj3 : (m : Int) < (k : Int) := by omega
              have hz2 := HB2.out.trans (hz.mono HB2.out.size)
              have lz : B < wz.heap.size := Nat.lt_of_lt_of_le hlt hz2.size
              have HD := Lib.hid (show wz.cell? ⟨B, o + m * 10 + 8, none⟩ = some (.int .i64 (dvAt l m).ad) from (hz2.cell (p := ⟨B, _, none⟩) hlt).trans (HCw.out m _ (dvAt_some (by have := HN.out; omega)) 8 _ rfl))
              have HDk := Lib.hid (show wz.cell? ⟨B, o + k * 10 + 8, none⟩ = some (.int .i64 ad) from ((HX2.out.trans (hz.mono HX2.out.size)).cell (p := ⟨B, _, none⟩) lB).trans HCk.out)
              have HP := Lib.hid (show (dvAt l m).ad = (dvAt l m).ad from rfl)
              go_wp2_with fail
              by_cases had : (dvAt l m).ad = ad
              · have hv := Lib.hid (HNo.out (by rw [HE2.out]; exact allR_no hmk (by simp [had])))
                have hab : ((dvAt l m).ad == ad) = true := by simp [had]
                clear had HP
                generalize (dvAt l m).ad = pa at HD hab
                refine wp_region_quiet (C := fun W => Below wz.heap.size wz W) (by kernel_rfl) (by kernel_rfl) (Below.refl _ _).drew ?_
                dsimp only
                try simp only [Act.put, List.setIfInBounds_toArray, List.set_cons_zero, List.set_cons_succ]
                go_big_quiet_want; go_big_quiet_op; first | go_big_quiet_on | (refine ⟨_, fun _ _ => rfl, ?_⟩; go_big_quiet_on)
                go_big_quiet_want; go_big_quiet_op; first | go_big_quiet_on | (refine ⟨_, fun _ _ => rfl, ?_⟩; go_big_quiet_on)
                go_big_quiet_want; go_big_quiet_op; first | go_big_quiet_on | (refine ⟨_, fun _ _ => rfl, ?_⟩; go_big_quiet_on)
                go_big_quiet_want; go_big_quiet_op; first | go_big_quiet_on | (refine ⟨_, fun _ _ => rfl, ?_⟩; go_big_quiet_on)
                go_big_quiet_want; refine ⟨.int .i64 pa, fun W hW => (quietLoadOne 2 (.tmp 66) rfl B (o + m * 10 + 8) rfl (.int .i64 pa) ((hW.cell (p := ⟨B, o + m * 10 + 8, none⟩) lz).trans HD.out) _ Tryz.underlying2 rfl), ?_⟩; simp only [Act.put, List.setIfInBounds_toArray, List.set_cons_zero, List.set_cons_succ]; go_big_quiet_on
                go_big_quiet_want; go_big_quiet_op; first | go_big_quiet_on | (refine ⟨_, fun _ _ => rfl, ?_⟩; go_big_quiet_on)
                go_big_quiet_want; go_big_quiet_op; first | go_big_quiet_on | (refine ⟨_, fun _ _ => rfl, ?_⟩; go_big_quiet_on)
                go_big_quiet_want; go_big_quiet_op; first | go_big_quiet_on | (refine ⟨_, fun _ _ => rfl, ?_⟩; go_big_quiet_on)
                go_big_quiet_want; go_big_quiet_op; first | go_big_quiet_on | (refine ⟨_, fun _ _ => rfl, ?_⟩; go_big_quiet_on)
                go_big_quiet_want; refine ⟨.int .i64 ad, fun W hW => (quietLoadOne 2 (.tmp 71) rfl B (o + k * 10 + 8) rfl (.int .i64 ad) ((hW.cell (p := ⟨B, o + k * 10 + 8, none⟩) lz).trans HDk.out) _ Tryz.underlying2 rfl), ?_⟩; simp only [Act.put, List.setIfInBounds_toArray, List.set_cons_zero, List.set_cons_succ]; go_big_quiet_on
                go_big_quiet_want; go_big_quiet_op; first | go_big_quiet_on | (refine ⟨_, fun _ _ => rfl, ?_⟩; go_big_quiet_on)
                refine wpQuiet_nil ?_
                intro X hX
                go_wp2_with fail
                go_ret
                exact ⟨by rw [hv.out]; rfl, hz2.trans (hX.mono hz2.size)⟩
              · have HT := Lib.hid (show (!((dvAt l m).ad == ad)) = true by simp [had])
                have hab : ((dvAt l m).ad == ad) = false := by simp [had]
                clear had HP
                generalize (dvAt l m).ad = pa at HD hab
                refine wp_region_quiet (C := fun W => Below wz.heap.size wz W) (by kernel_rfl) (by kernel_rfl) (Below.refl _ _).drew ?_
                dsimp only
                try simp only [Act.put, List.setIfInBounds_toArray, List.set_cons_zero, List.set_cons_succ]
                go_big_quiet_want; go_big_quiet_op; first | go_big_quiet_on | (refine ⟨_, fun _ _ => rfl, ?_⟩; go_big_quiet_on)
                go_big_quiet_want; go_big_quiet_op; first | go_big_quiet_on | (refine ⟨_, fun _ _ => rfl, ?_⟩; go_big_quiet_on)
                go_big_quiet_want; go_big_quiet_op; first | go_big_quiet_on | (refine ⟨_, fun _ _ => rfl, ?_⟩; go_big_quiet_on)
                go_big_quiet_want; go_big_quiet_op; first | go_big_quiet_on | (refine ⟨_, fun _ _ => rfl, ?_⟩; go_big_quiet_on)
                go_big_quiet_want; refine ⟨.int .i64 pa, fun W hW => (quietLoadOne 2 (.tmp 66) rfl B (o + m * 10 + 8) rfl (.int .i64 pa) ((hW.cell (p := ⟨B, o + m * 10 + 8, none⟩) lz).trans HD.out) _ Tryz.underlying2 rfl), ?_⟩; simp only [Act.put, List.setIfInBounds_toArray, List.set_cons_zero, List.set_cons_succ]; go_big_quiet_on
                go_big_quiet_want; go_big_quiet_op; first | go_big_quiet_on | (refine ⟨_, fun _ _ => rfl, ?_⟩; go_big_quiet_on)
                go_big_quiet_want; go_big_quiet_op; first | go_big_quiet_on | (refine ⟨_, fun _ _ => rfl, ?_⟩; go_big_quiet_on)
                go_big_quiet_want; go_big_quiet_op; first | go_big_quiet_on | (refine ⟨_, fun _ _ => rfl, ?_⟩; go_big_quiet_on)
                go_big_quiet_want; go_big_quiet_op; first | go_big_quiet_on | (refine ⟨_, fun _ _ => rfl, ?_⟩; go_big_quiet_on)
                go_big_quiet_want; refine ⟨.int .i64 ad, fun W hW => (quietLoadOne 2 (.tmp 71) rfl B (o + k * 10 + 8) rfl (.int .i64 ad) ((hW.cell (p := ⟨B, o + k * 10 + 8, none⟩) lz).trans HDk.out) _ Tryz.underlying2 rfl), ?_⟩; simp only [Act.put, List.setIfInBounds_toArray, List.set_cons_zero, List.set_cons_succ]; go_big_quiet_on
                go_big_quiet_want; go_big_quiet_op; first | go_big_quiet_on | (refine ⟨_, fun _ _ => rfl, ?_⟩; go_big_quiet_on)
                refine wpQuiet_nil ?_
                intro X hX
                go_wp2_with fail
                go_roundw
                case rel => exact ⟨m + 1, by go_num, by omega, fun j hj => (Nat.lt_or_ge j m).elim (HM.out j) (fun g => (show j = m by omega) ▸ HT.out), hz.trans (hX.mono hz.size)⟩
                case measure => simp [intOf]; omega
            · have hj3 : ¬ (m : Int) < (k : Int) := by omega
              have hmf : decide (m < k) = false := decide_eq_false (by omega)
              have hmf2 : decide ((m : Int) < (k : Int)) = false := decide_eq_false (by omega)
              have HT := Lib.hid (show dvsAt l k = true by rw [HE2.out]; exact allR_yes (fun t ht => HM.out t (by omega)))
              have hz2 := HB2.out.trans (hz.mono HB2.out.size)
              go_wp2_with fail
              go_roundw
              case rel => exact ⟨k + 1, by go_num, by omega, fun j hj => (Nat.lt_or_ge j k).elim (HA.out j) (fun g => (show j = k by omega) ▸ HT.out), hz2⟩
              case measure => simp [intOf]; omega
    · have hv := Lib.hid (HVy.out (by have := HN.out; omega) (fun i hi => HA.out i (by have := HN.out; omega)))
      go_wp2_with fail
      go_ret
      exact ⟨by rw [hv.out]; rfl, hb⟩
end Go.Proofs.YtioldepgoodipaaGreat
