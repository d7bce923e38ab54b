/- Several texts in one, each with its own head: what is proved, and of what, stands there. -/
import Derived.Test.YtdhmcepnmbchkaaClaimNext
import Derived.Test.YtdhmcepnmbchkaaQuiet
import Derived.Test.YtdhmcepnmbchkaaDvRight
import Derived.RangeFuncNested
import Derived.RangeFuncBound
import Derived.RangeFuncCalls
import Derived.RangeFuncLeaves
import Derived.Shelf.Abstract
import Derived.Shelf.RegionOpen
import Derived.WalkKit
import Derived.OwnWalkIn
import Derived.TacticsInMore
import Derived.LoopNIn
import Derived.LoopIn
import Derived.Test.YtdhmcepnmbchkaaKnown
/- Two Names compared, in a walk of a region whose operations yield the same in whatever order. -/
namespace Go.Proofs.Ytdhmcepnmbchkaa
open Go.RowKit
set_option linter.unusedVariables false

set_option maxRecDepth 100000 in
theorem quietEqlNm {o : Oper} {a : Act} {C : World → Prop} {W : World} (x y : Operand) (tt : TypeId)
    (ho : o.op = .binOp .eql 24 x y tt) (n0 n1 n2 n3 n4 n5 n6 m0 m1 m2 m3 m4 m5 m6 : Int) (n7 m7 : Bool)
    (hx : a.eval x = .agg #[.int .i64 n0, .int .i64 n1, .int .i64 n2, .int .i64 n3, .int .i64 n4, .int .i64 n5, .int .i64 n6, .bool n7]) (hy : a.eval y = .agg #[.int .i64 m0, .int .i64 m1, .int .i64 m2, .int .i64 m3, .int .i64 m4, .int .i64 m5, .int .i64 m6, .bool m7])
    (b : Bool) (hb : b = decide (n0 = m0 ∧ n1 = m1 ∧ n2 = m2 ∧ n3 = m3 ∧ n4 = m4 ∧ n5 = m5 ∧ n6 = m6 ∧ n7 = m7)) : o.quietAt Try.prog a C W (.bool b) := by
  unfold Oper.quietAt execOp
  rw [ho]
  dsimp only
  rw [hx, hy]
  cases b
  · have hn : ¬ (n0 = m0 ∧ n1 = m1 ∧ n2 = m2 ∧ n3 = m3 ∧ n4 = m4 ∧ n5 = m5 ∧ n6 = m6 ∧ n7 = m7) := fun q => by
      rw [decide_eq_true q] at hb
      cases hb
    simp [go_sem]
    rw [if8_no hn]
    exact ⟨rfl, rfl⟩
  · have hn : n0 = m0 ∧ n1 = m1 ∧ n2 = m2 ∧ n3 = m3 ∧ n4 = m4 ∧ n5 = m5 ∧ n6 = m6 ∧ n7 = m7 := of_decide_eq_true hb.symm
    obtain ⟨rfl, rfl, rfl, rfl, rfl, rfl, rfl, rfl⟩ := hn
    simp [go_sem]
end Go.Proofs.Ytdhmcepnmbchkaa
/- Where somebody is: the model's. Nothing that was there is written. -/
namespace Go.Proofs.Ytdhmcepnmbchkaa
open Go.RowKit
set_option linter.unusedVariables false

theorem addrD_cons (y : Dv) (r : List Dv) (n : Nm) : addrD (y :: r) n = if sameN y.n n = true then y.ad else addrD r n := by
  unfold addrD
  rw [List.find?_cons]
  cases sameN y.n n <;> rfl
theorem drop_dv {l : List Dv} {k : Nat} (h : k < l.length) : l.drop k = dvAt l k :: l.drop (k + 1) := by
  rw [List.drop_eq_getElem_cons h]
  have := dvAt_some h
  rw [List.getElem?_eq_getElem h] at this
  rw [Option.some.inj this]
set_option maxRecDepth 100000 in
set_option maxHeartbeats 8000000 in
theorem specAddrOf_any (a : Option Addr) (cap : Nat) (l : List Dv) (n : Nm) (w : World) (h : RsIn dvL 10 w a l) (hlen : l.length ≤ maxLen) :
    Calls Try.prog 39 #[.slice a l.length cap, nmV n] w fun e w' => e = .returned (.int .i64 (addrV l n)) ∧ Below w.heap.size w w' := by
  have HDR := fun W (hW : RsIn dvL 10 W a l) => Lib.hid (specDevicesRight_any a cap l W hW hlen)
  unfold maxLen at hlen
  obtain ⟨V, hV⟩ : ∃ V, addrV l n = V := ⟨_, rfl⟩
  have HV := Lib.hid (show (if dvsB l = true then addrD l n else -1) = V from hV)
  rw [hV]
  have HI := Lib.hid h
  clear h hV
  generalize dvsB l = R at *
  obtain ⟨N, hN⟩ : ∃ N, l.length = N := ⟨_, rfl⟩
  have HN := Lib.hid hN
  rw [hN] at hlen HDR ⊢
  clear hN
  obtain ⟨n', hn'⟩ : ∃ n', n = n' := ⟨_, rfl⟩
  have HX := Lib.hid hn'
  rw [hn']
  clear hn'
  obtain ⟨n0, n1, n2, n3, n4, n5, n6, n7⟩ := n'
  unfold nmV
  dsimp only
  go_enter Try.func39, Try.ntmps39
  go_wp2_with (first
    | ((with_reducible refine @id (wpList _ _ _ (Oper.mk _ (Op.box 24 (.tmp 1)) _ _ _ _ :: _) _ _) ?_); refine wpList_box_h rfl 24 (.tmp 1) rfl #[.int .i64 n0, .int .i64 n1, .int .i64 n2, .int .i64 n3, .int .i64 n4, .int .i64 n5, .int .i64 n6, .bool n7] rfl ?_; intro w1 R1 e1 g1 b1; have HL1 := Lib.hid (show Lg w w1 [(R1, #[.int .i64 n0, .int .i64 n1, .int .i64 n2, .int .i64 n3, .int .i64 n4, .int .i64 n5, .int .i64 n6, .bool n7], 24)] [] from (Lg.first w).box e1 g1 b1); clear g1 b1 e1))
  have HRB := Lib.hid (HL1.out.get (.head _))
  have HB1 := Lib.hid HL1.out.below
  have HI1 := Lib.hid (HI.out.kept HB1.out)
  clear HL1 HI
  rcases R with _ | _
  · have hv := Lib.hid (show -1 = V from HV.out)
    go_loopw [5] (fun i wr => i = .int .i64 0 ∧ Below w1.heap.size w1 wr) (fun i _ => 0)
    case atStart => exact ⟨rfl, Below.refl _ _⟩
    case round =>
      obtain ⟨rfl, hb⟩ := hrel
      by_cases h0 : 0 < N
      · have h0i : decide ((0 : Int) < (N : Int)) = true := decide_eq_true (by omega)
        go_wp2_with fail
        refine ((HDR _ (HI1.out.kept hb)).out).mono ?_
        rintro e v2 ⟨rfl, h2⟩
        go_wp2_with fail
        go_ret
        exact ⟨by rw [← hv.out]; rfl, HB1.out.trans ((hb.trans (h2.mono hb.size)).mono HB1.out.size)⟩
      · have h0i : decide ((0 : Int) < (N : Int)) = false := decide_eq_false (by omega)
        have h0n : decide (0 < N) = false := decide_eq_false (by omega)
        go_wp2_with fail
        go_ret
        exact ⟨by rw [← hv.out]; rfl, HB1.out.trans (hb.mono HB1.out.size)⟩
  · have HV2 := Lib.hid (show addrD (l.drop 0) n = V from HV.out)
    go_loopw [5] (fun i wr => ∃ k : Nat, i = .int .i64 (k : Int) ∧ k ≤ N ∧ addrD (l.drop k) n = V ∧ Below w1.heap.size w1 wr) (fun i _ => N - (intOf i).toNat)
    case atStart => exact ⟨0, rfl, by omega, HV2.out, Below.refl _ _⟩
    case round =>
      obtain ⟨k, rfl, hk, hv, hb⟩ := hrel
      have HK := Lib.hid hv
      clear hv
      by_cases hkn : k < N
      · have hkl : k < l.length := by have := HN.out; omega
        have hi1 : (0 : Int) ≤ (k : Int) := by omega
        have hi2 : (k : Int) < (N : Int) := by omega
        go_wp2_with fail
        refine ((HDR _ (HI1.out.kept hb)).out).mono ?_
        rintro e v2 ⟨rfl, h2⟩
        have hb2 := hb.trans (h2.mono hb.size)
        have HR2 := Lib.hid ((hb2.block R1 (Array.getElem?_eq_some_iff.1 HRB.out).1).trans HRB.out)
        obtain ⟨B, o, ha, hlt, hcs⟩ := HI1.out.at (by omega)
        have lB : B < v2.heap.size := Nat.lt_of_lt_of_le hlt hb2.size
        have HCs := Lib.hid (fun j v hv => (hb2.cell (p := ⟨B, _, none⟩) hlt).trans (hcs k _ (dvAt_some hkl) j v hv))
        have HD := Lib.hid (show V = if sameN (dvAt l k).n n = true then (dvAt l k).ad else addrD (l.drop (k + 1)) n by rw [← HK.out, drop_dv hkl, addrD_cons])
        clear hcs HK
        subst ha
        rw [HX.out] at HD
        generalize dvAt l k = y at HCs HD
        obtain ⟨⟨m0, m1, m2, m3, m4, m5, m6, m7⟩, yad, yg⟩ := y
        unfold dvL at HCs
        dsimp only at HCs HD
        have HCn := Lib.hid (show ∀ (j : Nat) v, ([.int .i64 m0, .int .i64 m1, .int .i64 m2, .int .i64 m3, .int .i64 m4, .int .i64 m5, .int .i64 m6, .bool m7] : List Value)[j]? = some v → v2.cell? ⟨B, o + k * 10 + j, none⟩ = some v from fun j v hv => HCs.out j v (dv_nm m0 m1 m2 m3 m4 m5 m6 m7 yad yg j v hv))
        have HCa := Lib.hid (show v2.cell? ⟨B, o + k * 10 + 8, none⟩ = some (.int .i64 yad) from HCs.out 8 _ rfl)
        have HSame := Lib.hid (show sameN ⟨m0, m1, m2, m3, m4, m5, m6, m7⟩ ⟨n0, n1, n2, n3, n4, n5, n6, n7⟩ = decide (m0 = n0 ∧ m1 = n1 ∧ m2 = n2 ∧ m3 = n3 ∧ m4 = n4 ∧ m5 = n5 ∧ m6 = n6 ∧ m7 = n7) from rfl)
        clear HCs
        generalize sameN ⟨m0, m1, m2, m3, m4, m5, m6, m7⟩ ⟨n0, n1, n2, n3, n4, n5, n6, n7⟩ = S at *
        go_wp2_with fail
        rcases S with _ | _
        · have HK2 := Lib.hid (show addrD (l.drop (k + 1)) n = V from (by rw [HX.out]; exact HD.out.symm))
          refine wp_region_quiet (C := fun W => Below v2.heap.size v2 W) (by kernel_rfl) (by kernel_rfl) (Below.refl _ _).drew ?_
          dsimp only
          try simp only [Act.put, List.setIfInBounds_toArray, List.set_cons_zero, List.set_cons_succ]
          go_big_quiet_want; go_big_quiet_op; first | go_big_quiet_on | (refine ⟨_, fun _ _ => rfl, ?_⟩; go_big_quiet_on)
          go_big_quiet_want; go_big_quiet_op; first | go_big_quiet_on | (refine ⟨_, fun _ _ => rfl, ?_⟩; go_big_quiet_on)
          go_big_quiet_want; go_big_quiet_op; first | go_big_quiet_on | (refine ⟨_, fun _ _ => rfl, ?_⟩; go_big_quiet_on)
          go_big_quiet_want; go_big_quiet_op; first | go_big_quiet_on | (refine ⟨_, fun _ _ => rfl, ?_⟩; go_big_quiet_on)
          go_big_quiet_want; refine ⟨.agg #[.int .i64 m0, .int .i64 m1, .int .i64 m2, .int .i64 m3, .int .i64 m4, .int .i64 m5, .int .i64 m6, .bool m7], fun W hW => (quietLoadCells 24 (.tmp 19) rfl B (o + k * 10) rfl [.int .i64 m0, .int .i64 m1, .int .i64 m2, .int .i64 m3, .int .i64 m4, .int .i64 m5, .int .i64 m6, .bool m7] (fun j v hv => (hW.cell (p := ⟨B, o + k * 10 + j, none⟩) lB).trans (HCn.out j v hv)) _ Try.underlying24 rfl (by kernel_rfl)), ?_⟩; simp only [Act.put, List.setIfInBounds_toArray, List.set_cons_zero, List.set_cons_succ]; go_big_quiet_on
          go_big_quiet_want; refine ⟨.agg #[.int .i64 n0, .int .i64 n1, .int .i64 n2, .int .i64 n3, .int .i64 n4, .int .i64 n5, .int .i64 n6, .bool n7], fun W hW => (quietLoadCells 24 (.tmp 3) rfl R1 0 rfl [.int .i64 n0, .int .i64 n1, .int .i64 n2, .int .i64 n3, .int .i64 n4, .int .i64 n5, .int .i64 n6, .bool n7] (rowAll HR2.out hW) _ Try.underlying24 rfl (by kernel_rfl)), ?_⟩; simp only [Act.put, List.setIfInBounds_toArray, List.set_cons_zero, List.set_cons_succ]; go_big_quiet_on
          go_big_quiet_want; refine ⟨.bool false, fun W hW => (quietEqlNm (.tmp 20) (.tmp 21) _ rfl m0 m1 m2 m3 m4 m5 m6 n0 n1 n2 n3 n4 n5 n6 m7 n7 rfl rfl false HSame.out), ?_⟩; simp only [Act.put, List.setIfInBounds_toArray, List.set_cons_zero, List.set_cons_succ]; go_big_quiet_on
          refine wpQuiet_nil ?_
          intro X hX
          go_wp2_with fail
          go_roundw
          case rel => exact ⟨k + 1, by go_num, by omega, HK2.out, hb2.trans (hX.mono hb2.size)⟩
          case measure => simp [intOf]; omega
        · have hv := Lib.hid (show yad = V from HD.out.symm)
          refine wp_region_quiet (C := fun W => Below v2.heap.size v2 W) (by kernel_rfl) (by kernel_rfl) (Below.refl _ _).drew ?_
          dsimp only
          try simp only [Act.put, List.setIfInBounds_toArray, List.set_cons_zero, List.set_cons_succ]
          go_big_quiet_want; go_big_quiet_op; first | go_big_quiet_on | (refine ⟨_, fun _ _ => rfl, ?_⟩; go_big_quiet_on)
          go_big_quiet_want; go_big_quiet_op; first | go_big_quiet_on | (refine ⟨_, fun _ _ => rfl, ?_⟩; go_big_quiet_on)
          go_big_quiet_want; go_big_quiet_op; first | go_big_quiet_on | (refine ⟨_, fun _ _ => rfl, ?_⟩; go_big_quiet_on)
          go_big_quiet_want; go_big_quiet_op; first | go_big_quiet_on | (refine ⟨_, fun _ _ => rfl, ?_⟩; go_big_quiet_on)
          go_big_quiet_want; refine ⟨.agg #[.int .i64 m0, .int .i64 m1, .int .i64 m2, .int .i64 m3, .int .i64 m4, .int .i64 m5, .int .i64 m6, .bool m7], fun W hW => (quietLoadCells 24 (.tmp 19) rfl B (o + k * 10) rfl [.int .i64 m0, .int .i64 m1, .int .i64 m2, .int .i64 m3, .int .i64 m4, .int .i64 m5, .int .i64 m6, .bool m7] (fun j v hv => (hW.cell (p := ⟨B, o + k * 10 + j, none⟩) lB).trans (HCn.out j v hv)) _ Try.underlying24 rfl (by kernel_rfl)), ?_⟩; simp only [Act.put, List.setIfInBounds_toArray, List.set_cons_zero, List.set_cons_succ]; go_big_quiet_on
          go_big_quiet_want; refine ⟨.agg #[.int .i64 n0, .int .i64 n1, .int .i64 n2, .int .i64 n3, .int .i64 n4, .int .i64 n5, .int .i64 n6, .bool n7], fun W hW => (quietLoadCells 24 (.tmp 3) rfl R1 0 rfl [.int .i64 n0, .int .i64 n1, .int .i64 n2, .int .i64 n3, .int .i64 n4, .int .i64 n5, .int .i64 n6, .bool n7] (rowAll HR2.out hW) _ Try.underlying24 rfl (by kernel_rfl)), ?_⟩; simp only [Act.put, List.setIfInBounds_toArray, List.set_cons_zero, List.set_cons_succ]; go_big_quiet_on
          go_big_quiet_want; refine ⟨.bool true, fun W hW => (quietEqlNm (.tmp 20) (.tmp 21) _ rfl m0 m1 m2 m3 m4 m5 m6 n0 n1 n2 n3 n4 n5 n6 m7 n7 rfl rfl true HSame.out), ?_⟩; simp only [Act.put, List.setIfInBounds_toArray, List.set_cons_zero, List.set_cons_succ]; go_big_quiet_on
          refine wpQuiet_nil ?_
          intro X hX
          have HCx := Lib.hid ((hX.cell (p := ⟨B, o + k * 10 + 8, none⟩) lB).trans HCa.out)
          go_wp2_with (first
            | ((with_reducible refine @id (wpList _ _ _ (Oper.mk _ (Op.load 2 (.tmp 26)) _ _ _ _ :: _) _ _) ?_); refine wpList_load_one1 rfl 2 (.tmp 26) rfl B (o + k * 10 + 8) rfl (.int .i64 yad) HCx.out _ Try.underlying2 rfl ?_))
          go_ret
          exact ⟨by rw [← hv.out]; rfl, HB1.out.trans ((hb2.trans (hX.mono hb2.size)).mono HB1.out.size)⟩
      · have hv := Lib.hid (show -1 = V by rw [← HK.out, List.drop_of_length_le (by have := HN.out; omega)]; rfl)
        go_wp2_with fail
        go_ret
        exact ⟨by rw [← hv.out]; rfl, HB1.out.trans (hb.mono HB1.out.size)⟩
end Go.Proofs.Ytdhmcepnmbchkaa
/- The iterator over those Devices of a list that belong: what comes, one by one. -/
namespace Go.Proofs.Ytdhmcepnmbchkaa
open Go.RowKit Go.Shelf
set_option linter.unusedVariables false
attribute [local go_sem] Oper.semAt_some

/-- What a round that goes on keeps: what lay below n₀, and one block. -/
def KpB (n₀ Bb : Nat) (A B : World) : Prop := Below n₀ A B ∧ B.heap[Bb]? = A.heap[Bb]?
theorem filter_take {l : List Dv} {k : Nat} (p : Dv → Bool) (h : k < l.length) : (l.take (k + 1)).filter p = (l.take k).filter p ++ (if p (dvAt l k) = true then [dvAt l k] else []) := by
  have hd := dvAt_some h
  rw [List.take_add_one, hd, List.filter_append]
  cases hp : p (dvAt l k) <;> simp [hp]
set_option maxRecDepth 100000 in
set_option maxHeartbeats 8000000 in
theorem those1_in (n : Nat) (hn : 1 ≤ n) (lp Bs Bb n₀ : Nat) (a : Option Addr) (cap : Nat) (l : List Dv) (p : Dv → Bool) (gb : Nat) (lb : Array Value) (egb : ∀ args w, (callFunc gb args).run Try.prog w = .ok (.enter gb args) w)
    (hlen : l.length ≤ maxLen) (J Jx : List Dv → World → Prop) (W : World) (hn0 : n₀ ≤ W.heap.size) (hJ : AbidesFrom W.heap.size J)
    (hY : ∀ pre x W1, J pre W1 → pre.length < l.length → YieldAt Fence.wide (n - 1) Try.prog lp #[.agg (dvL x).toArray] W1 fun e W' =>
      (e = .returned (.bool true) ∧ J (pre ++ [x]) W' ∧ KpB n₀ Bb W1 W') ∨ (e = .returned (.bool false) ∧ Jx (pre ++ [x]) W'))
    (HP : ∀ x W', Below n₀ W W' → Calls Try.prog gb (#[.agg (dvL x).toArray] ++ lb) W' fun e W'' => e = .returned (.bool (p x)) ∧ Below W'.heap.size W' W'')
    (hBs : W.cell? ⟨Bs, 0, none⟩ = some (.slice a l.length cap)) (hBb : W.cell? ⟨Bb, 0, none⟩ = some (.func (.func gb) #[] lb)) (hRs : ∀ W', Below n₀ W W' → RsIn dvL 10 W' a l) (h0 : J [] W) :
    CallsIn Fence.wide n Try.prog 124 #[.func (.yield lp) #[] #[], .pointer (some ⟨Bs, 0, none⟩), .pointer (some ⟨Bb, 0, none⟩)] W fun e W' => (∃ v, e = .returned v) ∧
      (J (l.filter p) W' ∨ ∃ k x, k < l.length ∧ p (dvAt l k) = true ∧ x = dvAt l k ∧ Jx ((l.take k).filter p ++ [x]) W') := by
  unfold maxLen at hlen
  have HY := Lib.hid hY
  have HPP := Lib.hid HP
  have HRs := Lib.hid hRs
  have HJ := Lib.hid hJ
  have HB0 := Lib.hid hBb
  clear hY HP hRs hJ
  obtain ⟨N, hN⟩ : ∃ N, l.length = N := ⟨_, rfl⟩
  have HN := Lib.hid hN
  rw [hN] at hlen hBs
  clear hN
  refine callsIn_of_wp Try.func124 rfl trivial ?_ rfl
  simp only [Try.ntmps124, List.size_toArray, List.length_cons, List.length_nil, Nat.reduceAdd, Nat.reduceSub, Array.replicate_succ, Array.replicate_zero, List.push_toArray, List.append_toArray, List.nil_append, List.cons_append]
  gi_wp2
  gi_loopw [5, 8] (fun _ i wr => ∃ k : Nat, k ≤ N ∧ i = .int .i64 (k : Int) ∧ J ((l.take k).filter p) wr ∧ Below n₀ W wr ∧ wr.heap[Bb]? = W.heap[Bb]?)
    (fun _ i _ => N - (intOf i).toNat)
  case atStart => exact ⟨0, Nat.zero_le _, rfl, h0, Below.refl _ _, rfl⟩
  case round =>
    obtain ⟨k, hk, rfl, hJs, hnx, hbb⟩ := hrel
    by_cases hkn : k < N
    · have hi1 : (0 : Int) ≤ (k : Int) := by omega
      have hi2 : (k : Int) < (N : Int) := by omega
      obtain ⟨B, o, rfl, hblt, hcs⟩ := (HRs.out wr hnx).at (by have := HN.out; omega)
      have HCs := Lib.hid (hcs k _ (dvAt_some (by have := HN.out; omega)))
      have HX := Lib.hid (filter_take (l := l) p (k := k) (by have := HN.out; omega))
      have HPk := fun W' hW' => Lib.hid (HPP.out (dvAt l k) W' hW')
      have HYk := fun W1 hJ1 => Lib.hid (HY.out ((l.take k).filter p) (dvAt l k) W1 hJ1 (by have := List.length_filter_le p (l.take k); rw [List.length_take] at this; have := HN.out; omega))
      generalize hy : dvAt l k = y at HCs HX HPk HYk
      have HYy := Lib.hid hy
      clear hy HPP HY
      obtain ⟨⟨n0, n1, n2, n3, n4, n5, n6, n7⟩, ad, g⟩ := y
      unfold dvL at HCs HPk HYk
      dsimp only at HCs HPk HYk
      have hBbw := (World.cell?_of_block (a := ⟨Bb, 0, none⟩) hbb).trans HB0.out
      have lBb : Bb < wr.heap.size := World.block_lt_of_cell? wr ⟨Bb, 0, none⟩ hBbw
      have hnw : n₀ ≤ wr.heap.size := Nat.le_trans hn0 hnx.size
      have HBb1 := Lib.hid hBbw
      clear hBbw hBb hcs
      have c0 := HCs.out 0 _ rfl
      have c1 := HCs.out 1 _ rfl
      have c2 := HCs.out 2 _ rfl
      have c3 := HCs.out 3 _ rfl
      have c4 := HCs.out 4 _ rfl
      have c5 := HCs.out 5 _ rfl
      have c6 := HCs.out 6 _ rfl
      have c7 := HCs.out 7 _ rfl
      have c8 := HCs.out 8 _ rfl
      have c9 := HCs.out 9 _ rfl
      simp only [Nat.add_zero] at c0
      have hBbw := HBb1.out
      gi_wp2
      refine ⟨trivial, ?_⟩
      have hw2 : (wr.alloc (.cells #[.int .i64 n0, .int .i64 n1, .int .i64 n2, .int .i64 n3, .int .i64 n4, .int .i64 n5, .int .i64 n6, .bool n7, .int .i64 ad, .int .i64 g] 97)).heap.size = wr.heap.size + 1 := by simp
      refine (callsIn_wide.2 (HPk _ (hnx.trans ((Below.refl _ wr).alloc hnw _))).out).mono ?_
      rintro e v3 ⟨rfl, h3⟩
      have hrow := (h3.block wr.heap.size (by rw [hw2]; omega)).trans (World.alloc_heap_new wr (.cells #[.int .i64 n0, .int .i64 n1, .int .i64 n2, .int .i64 n3, .int .i64 n4, .int .i64 n5, .int .i64 n6, .bool n7, .int .i64 ad, .int .i64 g] 97))
      have hB3 : Below wr.heap.size wr v3 := ((Below.refl _ wr).alloc (Nat.le_refl _) _).trans (h3.mono (by rw [hw2]; omega))
      have HB3 := Lib.hid hB3
      have HJ3 := Lib.hid (HJ.out _ _ _ none hJs (grown_of_below hB3) (fun r e => by cases e))
      have d0 : v3.cell? ⟨wr.heap.size, 0, none⟩ = some (.int .i64 n0) := cell_of_row v3 wr.heap.size 0 _ _ (0, 0) hrow
      have d1 : v3.cell? ⟨wr.heap.size, 1, none⟩ = some (.int .i64 n1) := cell_of_row v3 wr.heap.size 1 _ _ (0, 0) hrow
      have d2 : v3.cell? ⟨wr.heap.size, 2, none⟩ = some (.int .i64 n2) := cell_of_row v3 wr.heap.size 2 _ _ (0, 0) hrow
      have d3 : v3.cell? ⟨wr.heap.size, 3, none⟩ = some (.int .i64 n3) := cell_of_row v3 wr.heap.size 3 _ _ (0, 0) hrow
      have d4 : v3.cell? ⟨wr.heap.size, 4, none⟩ = some (.int .i64 n4) := cell_of_row v3 wr.heap.size 4 _ _ (0, 0) hrow
      have d5 : v3.cell? ⟨wr.heap.size, 5, none⟩ = some (.int .i64 n5) := cell_of_row v3 wr.heap.size 5 _ _ (0, 0) hrow
      have d6 : v3.cell? ⟨wr.heap.size, 6, none⟩ = some (.int .i64 n6) := cell_of_row v3 wr.heap.size 6 _ _ (0, 0) hrow
      have d7 : v3.cell? ⟨wr.heap.size, 7, none⟩ = some (.bool n7) := cell_of_row v3 wr.heap.size 7 _ _ (0, 0) hrow
      have d8 : v3.cell? ⟨wr.heap.size, 8, none⟩ = some (.int .i64 ad) := cell_of_row v3 wr.heap.size 8 _ _ (0, 0) hrow
      have d9 : v3.cell? ⟨wr.heap.size, 9, none⟩ = some (.int .i64 g) := cell_of_row v3 wr.heap.size 9 _ _ (0, 0) hrow
      clear h3 hw2 hrow hB3 c0 c1 c2 c3 c4 c5 c6 c7 c8 c9 hBbw
      have HJs := Lib.hid hJs
      have HNX := Lib.hid hnx
      have HBB := Lib.hid hbb
      clear hJs hnx hbb
      generalize hpb : p ⟨⟨n0, n1, n2, n3, n4, n5, n6, n7⟩, ad, g⟩ = pb at HX HPk ⊢
      have HPB := Lib.hid hpb
      clear hpb
      rcases pb with _ | _
      · gi_wp2
        refine ⟨fun _ h => (by cases h), ?_⟩
        gi_wp2
        go_roundw
        case rel => exact ⟨k + 1, by omega, by go_num, by rw [HX.out]; simpa using HJ3.out, HNX.out.trans (HB3.out.mono hnw), (HB3.out.block Bb lBb).trans HBB.out⟩
        case measure => simp [intOf]; omega
      · obtain ⟨fn, tmps, assign, body, hy, hR⟩ := (HYk _ HJ3.out).out
        have HR := Lib.hid hR
        clear hR
        gi_wp2
        refine HR.out.mono ?_
        rintro e v4 (⟨rfl, hJ4, hk4⟩ | ⟨rfl, hJx4⟩)
        · gi_wp2
          go_roundw
          case rel => exact ⟨k + 1, by omega, by go_num, by rw [HX.out]; simpa using hJ4, HNX.out.trans ((HB3.out.mono hnw).trans hk4.1), hk4.2.trans ((HB3.out.block Bb lBb).trans HBB.out)⟩
          case measure => simp [intOf]; omega
        · gi_wp2
          refine bodyPost_ret (results_none rfl _ _ _) rfl ?_
          exact ⟨⟨_, rfl⟩, .inr ⟨k, _, by have := HN.out; omega, by rw [HYy.out]; exact HPB.out, HYy.out.symm, hJx4⟩⟩
    · have hJN := hJs
      rw [List.take_of_length_le (by have := HN.out; omega)] at hJN
      have HJN := Lib.hid hJN
      clear hJN hJs
      have hkf : decide ((k : Int) < (N : Int)) = false := decide_eq_false (by omega)
      have hkf2 : decide (k < N) = false := decide_eq_false (by omega)
      gi_wp2
      go_end0
      exact ⟨⟨_, rfl⟩, .inl HJN.out⟩
/-- The iterator's contract: all of those that belong, in their order; or some of them, the last one said 'no more'. -/
theorem those_stops (n : Nat) (hn : 1 ≤ n) (Bs Bb n₀ : Nat) (a : Option Addr) (cap : Nat) (l : List Dv) (p : Dv → Bool) (gb : Nat) (lb : Array Value) (egb : ∀ args w, (callFunc gb args).run Try.prog w = .ok (.enter gb args) w)
    (hlen : l.length ≤ maxLen) (w : World) (hn0 : n₀ ≤ w.heap.size) (lBs : Bs < w.heap.size) (lBb : Bb < w.heap.size)
    (HP : ∀ x W', Below n₀ w W' → Calls Try.prog gb (#[.agg (dvL x).toArray] ++ lb) W' fun e W'' => e = .returned (.bool (p x)) ∧ Below W'.heap.size W' W'')
    (hBs : w.cell? ⟨Bs, 0, none⟩ = some (.slice a l.length cap)) (hBb : w.cell? ⟨Bb, 0, none⟩ = some (.func (.func gb) #[] lb)) (hRs : ∀ W', Below n₀ w W' → RsIn dvL 10 W' a l) :
    SeqStopsK Fence.wide n Try.prog 124 #[.pointer (some ⟨Bs, 0, none⟩), .pointer (some ⟨Bb, 0, none⟩)] (fun x : Dv => #[.agg (dvL x).toArray]) (KpB n₀ Bb) (fun ys => ys = l.filter p)
      (fun pre => ∃ k, k < l.length ∧ p (dvAt l k) = true ∧ pre = (l.take k).filter p ++ [dvAt l k]) l.length w := fun lp J Jx W hW hJ _ hY h0 => by
  have hW0 : Below n₀ w W := hW.mono hn0
  refine (those1_in n hn lp Bs Bb n₀ a cap l p gb lb egb hlen J Jx W (Nat.le_trans hn0 hW.size) hJ hY (fun x W' h => HP x W' (hW0.trans h)) ((hW.cell (p := ⟨Bs, 0, none⟩) lBs).trans hBs) ((hW.cell (p := ⟨Bb, 0, none⟩) lBb).trans hBb) (fun W' h => hRs W' (hW0.trans h)) h0).mono ?_
  rintro e W' ⟨hv, hj | ⟨k, x, hk, hp, rfl, hj⟩⟩
  · exact ⟨hv, .inl ⟨_, rfl, hj⟩⟩
  · exact ⟨hv, .inr ⟨_, ⟨k, hk, hp, rfl⟩, hj⟩⟩
theorem kpB_t {n₀ Bb : Nat} {A B C : World} (h : KpB n₀ Bb A B) (k : KpB n₀ Bb B C) : KpB n₀ Bb A C := ⟨h.1.trans k.1, k.2.trans h.2⟩
theorem kpB_b {n₀ Bb : Nat} {w : World} (hn : n₀ ≤ w.heap.size) (hb : Bb < w.heap.size) (W : World) (l : Nat) (o o' : Obj) (hl : w.heap.size ≤ l) (h : W.heap[l]? = some o) (h1 : o.isCells = false) (h2 : o.isWalk = false) : KpB n₀ Bb W (W.putObj l o') :=
  ⟨belowK_b hn W l o o' hl h h1 h2, World.putObj_heap_other (by omega)⟩
set_option maxRecDepth 100000 in
theorem those_any (a : Option Addr) (len cap gb : Nat) (lb : Array Value) (w : World) :
    Calls Try.prog 83 #[.slice a len cap, .func (.func gb) #[] lb] w fun e w' => e = .returned (.func (.func 124) #[] #[.pointer (some ⟨w.heap.size, 0, none⟩), .pointer (some ⟨w.heap.size + 1, 0, none⟩)]) ∧ w' = (w.alloc (.cells #[.slice a len cap] 48)).alloc (.cells #[.func (.func gb) #[] lb] 101) := by
  go_enter Try.func83, Try.ntmps83
  go_wp2_with fail
  go_ret
  exact ⟨rfl, rfl⟩
end Go.Proofs.Ytdhmcepnmbchkaa
/- Where somebody is: the program's. Nothing that was there is written. -/
namespace Go.Proofs.Ytdhmcepnmbchkaa
open Go.RowKit Go.Shelf
set_option linter.unusedVariables false
attribute [local go_sem] Oper.semAt_some

set_option maxRecDepth 100000 in
set_option maxHeartbeats 8000000 in
theorem named_any (R : Nat) (n : Nm) (x : Dv) (W : World) (hR : W.heap[R]? = some (.cells #[.int .i64 n.u, .int .i64 n.m, .int .i64 n.i, .int .i64 n.f, .int .i64 n.c, .int .i64 n.s, .int .i64 n.y, .bool n.a] 24 (0, 0))) :
    Calls Try.prog 87 #[.agg (dvL x).toArray, .pointer (some ⟨R, 0, none⟩)] W fun e W' => e = .returned (.bool (sameN x.n n)) ∧ Below W.heap.size W W' := by
  obtain ⟨n0, n1, n2, n3, n4, n5, n6, n7⟩ := n
  obtain ⟨⟨m0, m1, m2, m3, m4, m5, m6, m7⟩, ad, g⟩ := x
  have HSame := Lib.hid (show sameN ⟨m0, m1, m2, m3, m4, m5, m6, m7⟩ ⟨n0, n1, n2, n3, n4, n5, n6, n7⟩ = decide (m0 = n0 ∧ m1 = n1 ∧ m2 = n2 ∧ m3 = n3 ∧ m4 = n4 ∧ m5 = n5 ∧ m6 = n6 ∧ m7 = n7) from rfl)
  have HR := Lib.hid hR
  have lR := (Array.getElem?_eq_some_iff.1 hR).1
  clear hR
  unfold dvL
  dsimp only at *
  generalize sameN ⟨m0, m1, m2, m3, m4, m5, m6, m7⟩ ⟨n0, n1, n2, n3, n4, n5, n6, n7⟩ = S at *
  go_enter Try.func87, Try.ntmps87
  go_wp2_with (first
    | (refine wpList_box_h rfl 97 (.tmp 0) rfl #[.int .i64 m0, .int .i64 m1, .int .i64 m2, .int .i64 m3, .int .i64 m4, .int .i64 m5, .int .i64 m6, .bool m7, .int .i64 ad, .int .i64 g] rfl ?_; intro w1 R1 e1 g1 b1; have HL1 := Lib.hid (show Lg W w1 [(R1, #[.int .i64 m0, .int .i64 m1, .int .i64 m2, .int .i64 m3, .int .i64 m4, .int .i64 m5, .int .i64 m6, .bool m7, .int .i64 ad, .int .i64 g], 97)] [] from (Lg.first W).box e1 g1 b1); clear g1 b1 e1; have HR1 := Lib.hid ((HL1.out.below.block R lR).trans HR.out))
    | (refine wpList_load_at rfl 24 (.tmp 4) rfl (R1) 0 rfl 97 #[.int .i64 m0, .int .i64 m1, .int .i64 m2, .int .i64 m3, .int .i64 m4, .int .i64 m5, .int .i64 m6, .bool m7, .int .i64 ad, .int .i64 g] (0, 0) (HL1.out.get (.head _)) [.int .i64 m0, .int .i64 m1, .int .i64 m2, .int .i64 m3, .int .i64 m4, .int .i64 m5, .int .i64 m6, .bool m7] rfl _ Try.underlying24 rfl (by kernel_rfl) ?_)
    | (refine wpList_load_at rfl 24 (.tmp 1) rfl (R) 0 rfl 24 #[.int .i64 n0, .int .i64 n1, .int .i64 n2, .int .i64 n3, .int .i64 n4, .int .i64 n5, .int .i64 n6, .bool n7] (0, 0) HR1.out [.int .i64 n0, .int .i64 n1, .int .i64 n2, .int .i64 n3, .int .i64 n4, .int .i64 n5, .int .i64 n6, .bool n7] rfl _ Try.underlying24 rfl (by kernel_rfl) ?_)
    | (refine wpList_eql_nm rfl (.tmp 5) (.tmp 6) _ rfl m0 m1 m2 m3 m4 m5 m6 n0 n1 n2 n3 n4 n5 n6 m7 n7 rfl rfl S HSame.out ?_))
  go_ret
  exact ⟨rfl, HL1.out.below⟩
theorem addrD_none {l : List Dv} {n : Nm} (h : l.filter (fun x => sameN x.n n) = []) : addrD l n = -1 := by
  unfold addrD
  rw [List.find?_eq_none.2 (fun x hx => by simpa using List.filter_eq_nil_iff.1 h x hx)]
theorem addrD_first {l : List Dv} {n : Nm} {k : Nat} (hk : k < l.length) (hp : sameN (dvAt l k).n n = true) (h : (l.take k).filter (fun x => sameN x.n n) = []) : addrD l n = (dvAt l k).ad := by
  have e : l.find? (fun d => sameN d.n n) = some (dvAt l k) := by
    rw [← List.take_append_drop k l, List.find?_append, List.find?_eq_none.2 (fun x hx => by simpa using List.filter_eq_nil_iff.1 h x hx), List.take_append_drop, drop_dv hk, List.find?_cons, hp]
    rfl
  unfold addrD
  rw [e]
def headAd : List Dv → Int
  | x :: _ => x.ad
  | [] => 0
set_option maxRecDepth 100000 in
set_option maxHeartbeats 8000000 in
theorem implAddrOf_any (a : Option Addr) (cap : Nat) (l : List Dv) (n : Nm) (w : World) (h : RsIn dvL 10 w a l) (hlen : l.length ≤ maxLen) (hcap : l.length ≤ cap) :
    Calls Try.prog 40 #[.slice a l.length cap, nmV n] w fun e w' => e = .returned (.int .i64 (addrV l n)) ∧ Below w.heap.size w w' := by
  have HDR := fun W (hW : RsIn dvL 10 W a l) => Lib.hid (implDevicesRight_any a cap l W hW hlen hcap)
  obtain ⟨n', hn'⟩ : ∃ n', n = n' := ⟨_, rfl⟩
  have HX := Lib.hid hn'
  rw [hn']
  clear hn'
  obtain ⟨n0, n1, n2, n3, n4, n5, n6, n7⟩ := n'
  unfold nmV
  dsimp only
  refine (callsIn_wide (n := 3)).1 ?_
  refine callsIn_of_wp_marks Try.func40 rfl trivial ?_ rfl
  simp only [Try.ntmps40, List.size_toArray, List.length_cons, List.length_nil, Nat.reduceAdd, Nat.reduceSub, Array.replicate_succ, Array.replicate_zero, List.push_toArray, List.append_toArray, List.nil_append, List.cons_append]
  gi_wp2
  refine ⟨trivial, ?_⟩
  have hb2 : Below w.heap.size w ((w.alloc (.cells #[.int .i64 n0, .int .i64 n1, .int .i64 n2, .int .i64 n3, .int .i64 n4, .int .i64 n5, .int .i64 n6, .bool n7] 24)).alloc (.cells #[.int .i64 0] 2)) := ((Below.refl _ w).alloc (Nat.le_refl _) _).alloc (by simp) _
  refine (callsIn_wide.2 (HDR _ (h.kept hb2)).out).mono ?_
  rintro e w3 ⟨rfl, h3⟩
  have HN3 := Lib.hid (show w3.heap[w.heap.size]? = some (.cells #[.int .i64 n0, .int .i64 n1, .int .i64 n2, .int .i64 n3, .int .i64 n4, .int .i64 n5, .int .i64 n6, .bool n7] 24) from (h3.block _ (by simp; omega)).trans ((Below.heap_alloc _ _ _ (by simp)).trans (World.alloc_heap_new w _)))
  have HC3 := Lib.hid (show w3.heap[w.heap.size + 1]? = some (.cells #[.int .i64 0] 2) from (h3.block _ (by simp)).trans (by have := World.alloc_heap_new (w.alloc (.cells #[.int .i64 n0, .int .i64 n1, .int .i64 n2, .int .i64 n3, .int .i64 n4, .int .i64 n5, .int .i64 n6, .bool n7] 24)) (.cells #[.int .i64 0] 2); rwa [World.size_alloc] at this))
  have HB3 := Lib.hid (hb2.trans (h3.mono hb2.size))
  have hs3 : w.heap.size + 2 ≤ w3.heap.size := by have := h3.size; simp at this; omega
  have c4 := cell_of_row w3 (w.heap.size + 1) 0 _ _ (0, 0) HC3.out
  have f4 := frozen_of_row w3 (w.heap.size + 1) 0 _ _ HC3.out
  clear h3 hb2 HDR
  rcases hR : dvsB l with _ | _
  · have HV := Lib.hid (show addrV l n = -1 by unfold addrV; rw [hR]; rfl)
    clear hR
    gi_wp2
    have hc5 := World.cell?_setCell_same' w3 ⟨w.heap.size + 1, 0, none⟩ (.int .i64 (-1)) (by rw [c4]; rfl)
    refine ⟨.int .i64 (-1), ?_, by rw [← HX.out, HV.out], HB3.out.setCell (p := ⟨w.heap.size + 1, 0, none⟩) (by simp) _⟩
    simp [results, Try.f40, go_sem, hc5]
  · have HV := Lib.hid (show addrV l n = addrD l n by unfold addrV; rw [hR]; rfl)
    clear hR
    gi_wp2
    refine ⟨trivial, ?_⟩
    refine (callsIn_wide.2 (those_any a l.length cap 87 #[.pointer (some ⟨w.heap.size, 0, none⟩)] w3)).mono ?_
    rintro e w4 ⟨rfl, hw4⟩
    have HB4 : Below w3.heap.size w3 w4 := by rw [hw4]; exact ((Below.refl _ w3).alloc (Nat.le_refl _) _).alloc (by simp) _
    have hs4 : w4.heap.size = w3.heap.size + 2 := by rw [hw4]; simp
    have bS : w4.cell? ⟨w3.heap.size, 0, none⟩ = some (.slice a l.length cap) := by rw [hw4]; exact ((Boxed.new w3 _ _).alloc _).cell
    have bF : w4.cell? ⟨w3.heap.size + 1, 0, none⟩ = some (.func (.func 87) #[] #[.pointer (some ⟨w.heap.size, 0, none⟩)]) := by
      rw [hw4]
      have := (Boxed.new (w3.alloc (.cells #[.slice a l.length cap] 48)) 101 (.func (.func 87) #[] #[.pointer (some ⟨w.heap.size, 0, none⟩)])).cell
      rwa [World.size_alloc] at this
    have HN4 := Lib.hid ((HB4.block _ (by omega)).trans HN3.out)
    have HC4 : Boxed w4 (w.heap.size + 1) 2 (.int .i64 0) := (HB4.block _ (by omega)).trans HC3.out
    have HW4 := Lib.hid (HB3.out.trans (HB4.mono (by omega)))
    have HBS := Lib.hid bS
    have HBF := Lib.hid bF
    have HCC := Lib.hid HC4
    clear hw4 HB4 bS bF c4 f4 HC4
    gi_wp2
    refine wpIn_rangeFunc_ownH rfl (by omega) (gf := 124) (lb := #[.pointer (some ⟨w3.heap.size, 0, none⟩), .pointer (some ⟨w3.heap.size + 1, 0, none⟩)]) rfl trivial (enters_of Try.func124 (by kernel_rfl) rfl)
      (those_stops 2 (by omega) w3.heap.size (w3.heap.size + 1) w3.heap.size a cap l (fun x => sameN x.n ⟨n0, n1, n2, n3, n4, n5, n6, n7⟩) 87 #[.pointer (some ⟨w.heap.size, 0, none⟩)] (enters_of Try.func87 (by kernel_rfl) rfl) hlen w4 (by omega) (by omega) (by omega)
        (fun x W' hW => named_any w.heap.size ⟨n0, n1, n2, n3, n4, n5, n6, n7⟩ x W' ((hW.block _ (by omega)).trans HN4.out)) HBS.out HBF.out (fun W' hW => h.kept (HW4.out.trans (hW.mono (by omega)))))
      kpB_t (kpB_b (by omega) (by omega)) (Below.refl _ _) (fun _ => rfl)
      (fun pre W => (pre = [] ∧ Boxed W (w.heap.size + 1) 2 (.int .i64 0)) ∧ Below w3.heap.size w4 W)
      (fun c pre W => ((c = .ret ∧ ∃ x, pre = [x]) ∧ Boxed W (w.heap.size + 1) 2 (.int .i64 (headAd pre))) ∧ Below w.heap.size w W)
      (OwnFrom.and (OwnFrom.and (ownFrom_pure _ _) (Own.from (boxed_own _ _ _) _)) (ownFrom_below (by omega) (by omega)))
      (fun c => OwnFrom.and (OwnFrom.and (ownFrom_pure _ _) (Own.from (boxed_own _ _ _) _)) (ownFrom_below (Nat.le_refl _) (by omega)))
      ⟨⟨rfl, HCC.out⟩, Below.refl _ _⟩
      (fun x a' W => ∃ Bx, w.heap.size + 1 < Bx ∧ W.heap[Bx]? = some (.cells (dvL x).toArray 97 (0, 0)) ∧ a' = { tmps := #[.slice a l.length cap, .agg #[.int .i64 n0, .int .i64 n1, .int .i64 n2, .int .i64 n3, .int .i64 n4, .int .i64 n5, .int .i64 n6, .bool n7], undef, .pointer (some ⟨w.heap.size, 0, none⟩), .pointer (some ⟨w.heap.size + 1, 0, none⟩), .func (.func 87) #[] #[.pointer (some ⟨w.heap.size, 0, none⟩)], .pointer (some ⟨Bx, 0, none⟩), .slice a l.length cap, .bool true, .bool false, .func (.func 87) #[] #[.pointer (some ⟨w.heap.size, 0, none⟩)], .slice a l.length cap, .func (.func 87) #[] #[.pointer (some ⟨w.heap.size, 0, none⟩)], .func (.func 124) #[] #[.pointer (some ⟨w3.heap.size, 0, none⟩), .pointer (some ⟨w3.heap.size + 1, 0, none⟩)], .agg (dvL x).toArray, undef, undef], defers := [] })
      (fun x a' _ X Y row hs hg hr => by obtain ⟨Bx, e1, e2, e3⟩ := hs; exact ⟨Bx, e1, (grownBy_keeps_cells hg (fun r e => (hr r e).2) e2 rfl).trans e2, e3⟩)
      ?assign ?body ?done ?stop
    case assign =>
      rintro lp pre x W K ⟨⟨hp, bR⟩, hB⟩ hK
      obtain ⟨⟨m0, m1, m2, m3, m4, m5, m6, m7⟩, ad, g⟩ := x
      have hKK := Lib.hid hK
      have hpp := Lib.hid hp
      have hWs : w3.heap.size + 2 ≤ W.heap.size := by have := hB.size; omega
      clear hK hp
      unfold dvL
      gi_wp2
      exact hKK.out _ _ ((KeepsOthers.alloc _ _).from _) ⟨(Below.refl _ W).alloc (by omega) _, Below.heap_alloc _ _ _ (by omega)⟩ ⟨⟨hpp.out, bR.alloc _⟩, hB.alloc (by omega) _⟩ ⟨W.heap.size, by omega, World.alloc_heap_new W _, rfl⟩
    case body =>
      rintro lp pre x a' W hl _ ⟨⟨rfl, bR⟩, hB⟩ ⟨Bx, hBx, bX, rfl⟩ hlt
      have cR := bR.cell
      have fR := bR.frozen
      have cX : W.cell? ⟨Bx, 8, none⟩ = some (.int .i64 x.ad) := cell_of_row W Bx 8 _ _ (0, 0) bX
      have HbX := Lib.hid bX
      clear bX hlt
      gi_wp2
      exact ⟨(KeepsOthers.setCell _ _ _).from _, ⟨⟨rfl, x, rfl⟩, bR.set _⟩, (HW4.out.trans (hB.mono (by omega))).setCell (p := ⟨w.heap.size + 1, 0, none⟩) (by simp) _⟩
    case done =>
      rintro D ys W hD rfl ⟨⟨hp, bR⟩, hB⟩ hK
      have HA := Lib.hid (addrD_none hp)
      clear hp
      have cR := bR.cell
      have fR := bR.frozen
      gi_wp2
      have hK' := (KeepsOthers.setCell W ⟨w.heap.size + 1, 0, none⟩ (.int .i64 (-1))).same D _ hK rfl
      refine ⟨by simp, .inl ⟨_, _, rfl, run_takeDeferred hK', ?_⟩⟩
      have hc5 := cell_kept (World.cell?_setCell_same' W ⟨w.heap.size + 1, 0, none⟩ (.int .i64 (-1)) (by rw [cR]; rfl)) (grownBy_putObj' _ D (.deferred none)) (fun r e => by cases e; exact ⟨_, hK', rfl⟩)
      refine ⟨.int .i64 (-1), ?_, by rw [← HX.out, HV.out, HX.out, HA.out], ((HW4.out.trans (hB.mono (by omega))).setCell (p := ⟨w.heap.size + 1, 0, none⟩) (by simp) _).trans (belowK_b (w := w) (Nat.le_refl _) _ D _ _ (by omega) hK' rfl rfl)⟩
      simp [results, Try.f40, go_sem, hc5]
    case stop =>
      rintro D c pre W hD ⟨k, hk, hpk, rfl⟩ ⟨⟨⟨rfl, x, hx⟩, bR⟩, hB⟩ hK
      have he : (l.take k).filter (fun x => sameN x.n ⟨n0, n1, n2, n3, n4, n5, n6, n7⟩) = [] := by
        have := congrArg List.length hx
        rw [List.length_append] at this
        exact List.eq_nil_of_length_eq_zero (by simpa using this)
      have HA := Lib.hid (addrD_first hk hpk he)
      rw [he] at bR
      have cR : W.cell? ⟨w.heap.size + 1, 0, none⟩ = some (.int .i64 (dvAt l k).ad) := bR.cell
      clear hx hpk he bR
      gi_wp2
      refine ⟨by simp, .inl ⟨_, _, rfl, run_takeDeferred hK, ?_⟩⟩
      have hc5 := cell_kept cR (grownBy_putObj' _ D (.deferred none)) (fun r e => by cases e; exact ⟨_, hK, rfl⟩)
      refine ⟨.int .i64 (dvAt l k).ad, ?_, by rw [← HX.out, HV.out, HX.out, HA.out], hB.trans (belowK_b (w := w) (Nat.le_refl _) W D _ _ (by omega) hK rfl rfl)⟩
      simp [results, Try.f40, go_sem, hc5]
end Go.Proofs.Ytdhmcepnmbchkaa
