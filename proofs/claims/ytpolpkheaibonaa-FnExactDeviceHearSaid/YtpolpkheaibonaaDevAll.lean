/- Several texts in one, each with its own head: what is proved, and of what, stands there. -/
import Derived.Test.YtpolpkheaibonaaClaimNext
import Derived.Test.YtpolpkheaibonaaQuiet
import Derived.Test.YtpolpkheaibonaaDvRight
import Derived.RangeFuncNested
import Derived.RangeFuncBound
import Derived.RangeFuncCalls
import Derived.RangeFuncLeaves
import Derived.Shelf.Abstract
import Derived.Shelf.RegionOpen
import Derived.WalkKit
import Derived.OwnWalkIn
import Derived.TacticsInMore
import Derived.LoopNIn
import Derived.LoopIn
import Derived.Test.YtpolpkheaibonaaRsOwn
import Derived.Test.YtpolpkheaibonaaDvs
import Derived.Test.YtpolpkheaibonaaOpenDvs
import Derived.Maps.AppendAt
import Derived.RangeFuncBox
/- Two Names compared, in a walk of a region whose operations yield the same in whatever order. -/
namespace Go.Proofs.Ytpolpkheaibonaa
open Go.RowKit
set_option linter.unusedVariables false

set_option maxRecDepth 100000 in
theorem quietEqlNm {o : Oper} {a : Act} {C : World → Prop} {W : World} (x y : Operand) (tt : TypeId)
    (ho : o.op = .binOp .eql 33 x y tt) (n0 n1 n2 n3 n4 n5 n6 m0 m1 m2 m3 m4 m5 m6 : Int) (n7 m7 : Bool)
    (hx : a.eval x = .agg #[.int .i64 n0, .int .i64 n1, .int .i64 n2, .int .i64 n3, .int .i64 n4, .int .i64 n5, .int .i64 n6, .bool n7]) (hy : a.eval y = .agg #[.int .i64 m0, .int .i64 m1, .int .i64 m2, .int .i64 m3, .int .i64 m4, .int .i64 m5, .int .i64 m6, .bool m7])
    (b : Bool) (hb : b = decide (n0 = m0 ∧ n1 = m1 ∧ n2 = m2 ∧ n3 = m3 ∧ n4 = m4 ∧ n5 = m5 ∧ n6 = m6 ∧ n7 = m7)) : o.quietAt Try.prog a C W (.bool b) := by
  unfold Oper.quietAt execOp
  rw [ho]
  dsimp only
  rw [hx, hy]
  cases b
  · have hn : ¬ (n0 = m0 ∧ n1 = m1 ∧ n2 = m2 ∧ n3 = m3 ∧ n4 = m4 ∧ n5 = m5 ∧ n6 = m6 ∧ n7 = m7) := fun q => by
      rw [decide_eq_true q] at hb
      cases hb
    simp [go_sem]
    rw [if8_no hn]
    exact ⟨rfl, rfl⟩
  · have hn : n0 = m0 ∧ n1 = m1 ∧ n2 = m2 ∧ n3 = m3 ∧ n4 = m4 ∧ n5 = m5 ∧ n6 = m6 ∧ n7 = m7 := of_decide_eq_true hb.symm
    obtain ⟨rfl, rfl, rfl, rfl, rfl, rfl, rfl, rfl⟩ := hn
    simp [go_sem]
end Go.Proofs.Ytpolpkheaibonaa
/- Where somebody is: the model's. Nothing that was there is written. -/
namespace Go.Proofs.Ytpolpkheaibonaa
open Go.RowKit
set_option linter.unusedVariables false

theorem addrD_cons (y : Dv) (r : List Dv) (n : Nm) : addrD (y :: r) n = if sameN y.n n = true then y.ad else addrD r n := by
  unfold addrD
  rw [List.find?_cons]
  cases sameN y.n n <;> rfl
theorem drop_dv {l : List Dv} {k : Nat} (h : k < l.length) : l.drop k = dvAt l k :: l.drop (k + 1) := by
  rw [List.drop_eq_getElem_cons h]
  have := dvAt_some h
  rw [List.getElem?_eq_getElem h] at this
  rw [Option.some.inj this]
end Go.Proofs.Ytpolpkheaibonaa
/- The iterator over those Devices of a list that belong: what comes, one by one. -/
namespace Go.Proofs.Ytpolpkheaibonaa
open Go.RowKit Go.Shelf
set_option linter.unusedVariables false
attribute [local go_sem] Oper.semAt_some

/-- What a round that goes on keeps: what lay below n₀, and one block. -/
def KpB (n₀ Bb : Nat) (A B : World) : Prop := Below n₀ A B ∧ B.heap[Bb]? = A.heap[Bb]?
theorem filter_take {l : List Dv} {k : Nat} (p : Dv → Bool) (h : k < l.length) : (l.take (k + 1)).filter p = (l.take k).filter p ++ (if p (dvAt l k) = true then [dvAt l k] else []) := by
  have hd := dvAt_some h
  rw [List.take_add_one, hd, List.filter_append]
  cases hp : p (dvAt l k) <;> simp [hp]
set_option maxRecDepth 100000 in
set_option maxHeartbeats 8000000 in
theorem those1_in (n : Nat) (hn : 1 ≤ n) (lp Bs Bb n₀ : Nat) (a : Option Addr) (cap : Nat) (l : List Dv) (p : Dv → Bool) (gb : Nat) (lb : Array Value) (egb : ∀ args w, (callFunc gb args).run Try.prog w = .ok (.enter gb args) w)
    (hlen : l.length ≤ maxLen) (J Jx : List Dv → World → Prop) (W : World) (hn0 : n₀ ≤ W.heap.size) (hJ : AbidesFrom W.heap.size J)
    (hY : ∀ pre x W1, J pre W1 → pre.length < l.length → YieldAt Fence.wide (n - 1) Try.prog lp #[.agg (dvL x).toArray] W1 fun e W' =>
      (e = .returned (.bool true) ∧ J (pre ++ [x]) W' ∧ KpB n₀ Bb W1 W') ∨ (e = .returned (.bool false) ∧ Jx (pre ++ [x]) W'))
    (HP : ∀ x W', Below n₀ W W' → Calls Try.prog gb (#[.agg (dvL x).toArray] ++ lb) W' fun e W'' => e = .returned (.bool (p x)) ∧ Below W'.heap.size W' W'')
    (hBs : W.cell? ⟨Bs, 0, none⟩ = some (.slice a l.length cap)) (hBb : W.cell? ⟨Bb, 0, none⟩ = some (.func (.func gb) #[] lb)) (hRs : ∀ W', Below n₀ W W' → RsIn dvL 10 W' a l) (h0 : J [] W) :
    CallsIn Fence.wide n Try.prog 94 #[.func (.yield lp) #[] #[], .pointer (some ⟨Bs, 0, none⟩), .pointer (some ⟨Bb, 0, none⟩)] W fun e W' => (∃ v, e = .returned v) ∧
      (J (l.filter p) W' ∨ ∃ k x, k < l.length ∧ p (dvAt l k) = true ∧ x = dvAt l k ∧ Jx ((l.take k).filter p ++ [x]) W') := by
  unfold maxLen at hlen
  have HY := Lib.hid hY
  have HPP := Lib.hid HP
  have HRs := Lib.hid hRs
  have HJ := Lib.hid hJ
  have HB0 := Lib.hid hBb
  clear hY HP hRs hJ
  obtain ⟨N, hN⟩ : ∃ N, l.length = N := ⟨_, rfl⟩
  have HN := Lib.hid hN
  rw [hN] at hlen hBs
  clear hN
  refine callsIn_of_wp Try.func94 rfl trivial ?_ rfl
  simp only [Try.ntmps94, List.size_toArray, List.length_cons, List.length_nil, Nat.reduceAdd, Nat.reduceSub, Array.replicate_succ, Array.replicate_zero, List.push_toArray, List.append_toArray, List.nil_append, List.cons_append]
  gi_wp2
  gi_loopw [5, 8] (fun _ i wr => ∃ k : Nat, k ≤ N ∧ i = .int .i64 (k : Int) ∧ J ((l.take k).filter p) wr ∧ Below n₀ W wr ∧ wr.heap[Bb]? = W.heap[Bb]?)
    (fun _ i _ => N - (intOf i).toNat)
  case atStart => exact ⟨0, Nat.zero_le _, rfl, h0, Below.refl _ _, rfl⟩
  case round =>
    obtain ⟨k, hk, rfl, hJs, hnx, hbb⟩ := hrel
    by_cases hkn : k < N
    · have hi1 : (0 : Int) ≤ (k : Int) := by omega
      have hi2 : (k : Int) < (N : Int) := by omega
      obtain ⟨B, o, rfl, hblt, hcs⟩ := (HRs.out wr hnx).at (by have := HN.out; omega)
      have HCs := Lib.hid (hcs k _ (dvAt_some (by have := HN.out; omega)))
      have HX := Lib.hid (filter_take (l := l) p (k := k) (by have := HN.out; omega))
      have HPk := fun W' hW' => Lib.hid (HPP.out (dvAt l k) W' hW')
      have HYk := fun W1 hJ1 => Lib.hid (HY.out ((l.take k).filter p) (dvAt l k) W1 hJ1 (by have := List.length_filter_le p (l.take k); rw [List.length_take] at this; have := HN.out; omega))
      generalize hy : dvAt l k = y at HCs HX HPk HYk
      have HYy := Lib.hid hy
      clear hy HPP HY
      obtain ⟨⟨n0, n1, n2, n3, n4, n5, n6, n7⟩, ad, g⟩ := y
      unfold dvL at HCs HPk HYk
      dsimp only at HCs HPk HYk
      have hBbw := (World.cell?_of_block (a := ⟨Bb, 0, none⟩) hbb).trans HB0.out
      have lBb : Bb < wr.heap.size := World.block_lt_of_cell? wr ⟨Bb, 0, none⟩ hBbw
      have hnw : n₀ ≤ wr.heap.size := Nat.le_trans hn0 hnx.size
      have HBb1 := Lib.hid hBbw
      clear hBbw hBb hcs
      have c0 := HCs.out 0 _ rfl
      have c1 := HCs.out 1 _ rfl
      have c2 := HCs.out 2 _ rfl
      have c3 := HCs.out 3 _ rfl
      have c4 := HCs.out 4 _ rfl
      have c5 := HCs.out 5 _ rfl
      have c6 := HCs.out 6 _ rfl
      have c7 := HCs.out 7 _ rfl
      have c8 := HCs.out 8 _ rfl
      have c9 := HCs.out 9 _ rfl
      simp only [Nat.add_zero] at c0
      have hBbw := HBb1.out
      gi_wp2
      refine ⟨trivial, ?_⟩
      have hw2 : (wr.alloc (.cells #[.int .i64 n0, .int .i64 n1, .int .i64 n2, .int .i64 n3, .int .i64 n4, .int .i64 n5, .int .i64 n6, .bool n7, .int .i64 ad, .int .i64 g] 78)).heap.size = wr.heap.size + 1 := by simp
      refine (callsIn_wide.2 (HPk _ (hnx.trans ((Below.refl _ wr).alloc hnw _))).out).mono ?_
      rintro e v3 ⟨rfl, h3⟩
      have hrow := (h3.block wr.heap.size (by rw [hw2]; omega)).trans (World.alloc_heap_new wr (.cells #[.int .i64 n0, .int .i64 n1, .int .i64 n2, .int .i64 n3, .int .i64 n4, .int .i64 n5, .int .i64 n6, .bool n7, .int .i64 ad, .int .i64 g] 78))
      have hB3 : Below wr.heap.size wr v3 := ((Below.refl _ wr).alloc (Nat.le_refl _) _).trans (h3.mono (by rw [hw2]; omega))
      have HB3 := Lib.hid hB3
      have HJ3 := Lib.hid (HJ.out _ _ _ none hJs (grownOfBelow hB3) (fun r e => by cases e))
      have d0 : v3.cell? ⟨wr.heap.size, 0, none⟩ = some (.int .i64 n0) := cell_of_row v3 wr.heap.size 0 _ _ (0, 0) hrow
      have d1 : v3.cell? ⟨wr.heap.size, 1, none⟩ = some (.int .i64 n1) := cell_of_row v3 wr.heap.size 1 _ _ (0, 0) hrow
      have d2 : v3.cell? ⟨wr.heap.size, 2, none⟩ = some (.int .i64 n2) := cell_of_row v3 wr.heap.size 2 _ _ (0, 0) hrow
      have d3 : v3.cell? ⟨wr.heap.size, 3, none⟩ = some (.int .i64 n3) := cell_of_row v3 wr.heap.size 3 _ _ (0, 0) hrow
      have d4 : v3.cell? ⟨wr.heap.size, 4, none⟩ = some (.int .i64 n4) := cell_of_row v3 wr.heap.size 4 _ _ (0, 0) hrow
      have d5 : v3.cell? ⟨wr.heap.size, 5, none⟩ = some (.int .i64 n5) := cell_of_row v3 wr.heap.size 5 _ _ (0, 0) hrow
      have d6 : v3.cell? ⟨wr.heap.size, 6, none⟩ = some (.int .i64 n6) := cell_of_row v3 wr.heap.size 6 _ _ (0, 0) hrow
      have d7 : v3.cell? ⟨wr.heap.size, 7, none⟩ = some (.bool n7) := cell_of_row v3 wr.heap.size 7 _ _ (0, 0) hrow
      have d8 : v3.cell? ⟨wr.heap.size, 8, none⟩ = some (.int .i64 ad) := cell_of_row v3 wr.heap.size 8 _ _ (0, 0) hrow
      have d9 : v3.cell? ⟨wr.heap.size, 9, none⟩ = some (.int .i64 g) := cell_of_row v3 wr.heap.size 9 _ _ (0, 0) hrow
      clear h3 hw2 hrow hB3 c0 c1 c2 c3 c4 c5 c6 c7 c8 c9 hBbw
      have HJs := Lib.hid hJs
      have HNX := Lib.hid hnx
      have HBB := Lib.hid hbb
      clear hJs hnx hbb
      generalize hpb : p ⟨⟨n0, n1, n2, n3, n4, n5, n6, n7⟩, ad, g⟩ = pb at HX HPk ⊢
      have HPB := Lib.hid hpb
      clear hpb
      rcases pb with _ | _
      · gi_wp2
        refine ⟨fun _ h => (by cases h), ?_⟩
        gi_wp2
        go_roundw
        case rel => exact ⟨k + 1, by omega, by go_num, by rw [HX.out]; simpa using HJ3.out, HNX.out.trans (HB3.out.mono hnw), (HB3.out.block Bb lBb).trans HBB.out⟩
        case measure => simp [intOf]; omega
      · obtain ⟨fn, tmps, assign, body, hy, hR⟩ := (HYk _ HJ3.out).out
        have HR := Lib.hid hR
        clear hR
        gi_wp2
        refine HR.out.mono ?_
        rintro e v4 (⟨rfl, hJ4, hk4⟩ | ⟨rfl, hJx4⟩)
        · gi_wp2
          go_roundw
          case rel => exact ⟨k + 1, by omega, by go_num, by rw [HX.out]; simpa using hJ4, HNX.out.trans ((HB3.out.mono hnw).trans hk4.1), hk4.2.trans ((HB3.out.block Bb lBb).trans HBB.out)⟩
          case measure => simp [intOf]; omega
        · gi_wp2
          refine bodyPost_ret (results_none rfl _ _ _) rfl ?_
          exact ⟨⟨_, rfl⟩, .inr ⟨k, _, by have := HN.out; omega, by rw [HYy.out]; exact HPB.out, HYy.out.symm, hJx4⟩⟩
    · have hJN := hJs
      rw [List.take_of_length_le (by have := HN.out; omega)] at hJN
      have HJN := Lib.hid hJN
      clear hJN hJs
      have hkf : decide ((k : Int) < (N : Int)) = false := decide_eq_false (by omega)
      have hkf2 : decide (k < N) = false := decide_eq_false (by omega)
      gi_wp2
      go_end0
      exact ⟨⟨_, rfl⟩, .inl HJN.out⟩
/-- The iterator's contract: all of those that belong, in their order; or some of them, the last one said 'no more'. -/
theorem those_stops (n : Nat) (hn : 1 ≤ n) (Bs Bb n₀ : Nat) (a : Option Addr) (cap : Nat) (l : List Dv) (p : Dv → Bool) (gb : Nat) (lb : Array Value) (egb : ∀ args w, (callFunc gb args).run Try.prog w = .ok (.enter gb args) w)
    (hlen : l.length ≤ maxLen) (w : World) (hn0 : n₀ ≤ w.heap.size) (lBs : Bs < w.heap.size) (lBb : Bb < w.heap.size)
    (HP : ∀ x W', Below n₀ w W' → Calls Try.prog gb (#[.agg (dvL x).toArray] ++ lb) W' fun e W'' => e = .returned (.bool (p x)) ∧ Below W'.heap.size W' W'')
    (hBs : w.cell? ⟨Bs, 0, none⟩ = some (.slice a l.length cap)) (hBb : w.cell? ⟨Bb, 0, none⟩ = some (.func (.func gb) #[] lb)) (hRs : ∀ W', Below n₀ w W' → RsIn dvL 10 W' a l) :
    SeqStopsK Fence.wide n Try.prog 94 #[.pointer (some ⟨Bs, 0, none⟩), .pointer (some ⟨Bb, 0, none⟩)] (fun x : Dv => #[.agg (dvL x).toArray]) (KpB n₀ Bb) (fun ys => ys = l.filter p)
      (fun pre => ∃ k, k < l.length ∧ p (dvAt l k) = true ∧ pre = (l.take k).filter p ++ [dvAt l k]) l.length w := fun lp J Jx W hW hJ _ hY h0 => by
  have hW0 : Below n₀ w W := hW.mono hn0
  refine (those1_in n hn lp Bs Bb n₀ a cap l p gb lb egb hlen J Jx W (Nat.le_trans hn0 hW.size) hJ hY (fun x W' h => HP x W' (hW0.trans h)) ((hW.cell (p := ⟨Bs, 0, none⟩) lBs).trans hBs) ((hW.cell (p := ⟨Bb, 0, none⟩) lBb).trans hBb) (fun W' h => hRs W' (hW0.trans h)) h0).mono ?_
  rintro e W' ⟨hv, hj | ⟨k, x, hk, hp, rfl, hj⟩⟩
  · exact ⟨hv, .inl ⟨_, rfl, hj⟩⟩
  · exact ⟨hv, .inr ⟨_, ⟨k, hk, hp, rfl⟩, hj⟩⟩
theorem kpB_t {n₀ Bb : Nat} {A B C : World} (h : KpB n₀ Bb A B) (k : KpB n₀ Bb B C) : KpB n₀ Bb A C := ⟨h.1.trans k.1, k.2.trans h.2⟩
theorem kpB_b {n₀ Bb : Nat} {w : World} (hn : n₀ ≤ w.heap.size) (hb : Bb < w.heap.size) (W : World) (l : Nat) (o o' : Obj) (hl : w.heap.size ≤ l) (h : W.heap[l]? = some o) (h1 : o.isCells = false) (h2 : o.isWalk = false) : KpB n₀ Bb W (W.putObj l o') :=
  ⟨belowK_b hn W l o o' hl h h1 h2, World.putObj_heap_other (by omega)⟩
set_option maxRecDepth 100000 in
theorem those_any (a : Option Addr) (len cap gb : Nat) (lb : Array Value) (w : World) :
    Calls Try.prog 42 #[.slice a len cap, .func (.func gb) #[] lb] w fun e w' => e = .returned (.func (.func 94) #[] #[.pointer (some ⟨w.heap.size, 0, none⟩), .pointer (some ⟨w.heap.size + 1, 0, none⟩)]) ∧ w' = (w.alloc (.cells #[.slice a len cap] 24)).alloc (.cells #[.func (.func gb) #[] lb] 82) := by
  go_enter Try.func42, Try.ntmps42
  go_wp2_with fail
  go_ret
  exact ⟨rfl, rfl⟩
end Go.Proofs.Ytpolpkheaibonaa
/- Where somebody is: the program's. Nothing that was there is written. -/
namespace Go.Proofs.Ytpolpkheaibonaa
open Go.RowKit Go.Shelf
set_option linter.unusedVariables false
attribute [local go_sem] Oper.semAt_some

theorem addrD_none {l : List Dv} {n : Nm} (h : l.filter (fun x => sameN x.n n) = []) : addrD l n = -1 := by
  unfold addrD
  rw [List.find?_eq_none.2 (fun x hx => by simpa using List.filter_eq_nil_iff.1 h x hx)]
theorem addrD_first {l : List Dv} {n : Nm} {k : Nat} (hk : k < l.length) (hp : sameN (dvAt l k).n n = true) (h : (l.take k).filter (fun x => sameN x.n n) = []) : addrD l n = (dvAt l k).ad := by
  have e : l.find? (fun d => sameN d.n n) = some (dvAt l k) := by
    rw [← List.take_append_drop k l, List.find?_append, List.find?_eq_none.2 (fun x hx => by simpa using List.filter_eq_nil_iff.1 h x hx), List.take_append_drop, drop_dv hk, List.find?_cons, hp]
    rfl
  unfold addrD
  rw [e]
def headAd : List Dv → Int
  | x :: _ => x.ad
  | [] => 0
end Go.Proofs.Ytpolpkheaibonaa
/- A tick of a list of Devices: the model's. The answer is in memory of its own. -/
namespace Go.Proofs.Ytpolpkheaibonaa
open Go.RowKit
set_option linter.unusedVariables false

/-- A Device an Age older. -/
def olderD (x : Dv) : Dv := ⟨x.n, x.ad, x.g + 1⟩
theorem tickD_take {l : List Dv} {k : Nat} (h : k < l.length) : tickD (l.take (k + 1)) = tickD (l.take k) ++ (if (dvAt l k).g < 600 then [olderD (dvAt l k)] else []) := by
  rw [List.take_add_one, dvAt_some h]
  unfold tickD
  simp only [Option.toList_some, List.filter_append, List.map_append, olderD]
  split <;> simp_all
theorem tickD_len (l : List Dv) : (tickD l).length ≤ l.length := by
  unfold tickD
  rw [List.length_map]
  exact List.length_filter_le _ _
theorem tickDV_len (l : List Dv) : (tickDV l).length ≤ 8 := by
  unfold tickDV
  split
  · rename_i h
    exact Nat.le_trans (tickD_len l) (dvsB_of h).1
  · simp
theorem dvAge_of {l : List Dv} {k : Nat} (h : dvsAt l k = true) : 0 ≤ (dvAt l k).g ∧ (dvAt l k).g ≤ 600 := (dvOkB_of (dvsAt_of h).1).2.2
/-- A list of Devices, in memory of the call's own. -/
def DvOut (w : World) (l : List Dv) (e : Ending) (w' : World) : Prop :=
  ∃ a cap, e = .returned (.slice a l.length cap) ∧ RsNew dvL 10 78 w.heap.size w'.heap.size w' a l ∧ Below w.heap.size w w'
set_option maxRecDepth 100000 in
set_option maxHeartbeats 8000000 in
theorem l09Tick_any (a : Option Addr) (cap : Nat) (l : List Dv) (w : World) (h : RsIn dvL 10 w a l) (ht : dvsB l = true) :
    Calls Try.prog 38 #[.slice a l.length cap] w (DvOut w (tickD l)) := by
  unfold DvOut
  obtain ⟨i0, hi, hz0, hz1, hz2⟩ := info_parts DeviceTo.info
  have HI0 := Lib.hid hi
  have HI := Lib.hid h
  have HT := Lib.hid (dvsB_of ht).2
  have h4 := (dvsB_of ht).1
  obtain ⟨N, hN⟩ : ∃ N, l.length = N := ⟨_, rfl⟩
  have HN := Lib.hid hN
  rw [hN] at h4 ⊢
  clear h ht hN hi
  go_enter Try.func38, Try.ntmps38
  go_wp2_with (refine wpList_lit0 dvL 10 rfl 24 rfl 78 i0 Try.underlying24 HI0.out ?_; intro w1 G e1 hown b1; subst e1; have HO0 := Lib.hid (show OwnIn dvL 10 78 w.heap.size w1.heap.size w1 _ (tickD (l.take 0)) from hown); have HB0 := Lib.hid b1; clear hown b1)
  go_loopw [3, 4, 5] (fun v i _ wr => ∃ (k : Nat) (V : Value), i = .int .i64 (k : Int) ∧ V = v ∧ k ≤ N ∧ OwnIn dvL 10 78 w.heap.size wr.heap.size wr V (tickD (l.take k)) ∧ Below w.heap.size w wr) (fun v i _ _ => N - (intOf i).toNat)
  case atStart => exact ⟨0, _, rfl, rfl, by omega, HO0.out, HB0.out⟩
  case round =>
    obtain ⟨k, V, rfl, rfl, hk, hown, hb⟩ := hrel
    have HO := Lib.hid hown
    clear hown
    by_cases hkn : k < N
    · have hkl : k < l.length := by have := HN.out; omega
      have hi1 : (0 : Int) ≤ (k : Int) := by omega
      have hi2 : (k : Int) < (N : Int) := by omega
      obtain ⟨b, o, rfl, hlt, hc⟩ := HI.out.at (by omega)
      have lB : b < wr.heap.size := Nat.lt_of_lt_of_le hlt hb.size
      have HCs := Lib.hid (fun j v hv => (hb.cell (p := ⟨b, _, none⟩) hlt).trans (hc k _ (dvAt_some hkl) j v hv))
      obtain ⟨a0, a1⟩ := dvAge_of (HT.out k hkl)
      have HX := Lib.hid (tickD_take hkl)
      have hlen : (tickD (l.take k)).length ≤ 8 := Nat.le_trans (tickD_len _) (by rw [List.length_take]; omega)
      have HLen := Lib.hid hlen
      clear hc hlen
      generalize tickD (l.take k) = L at *
      generalize dvAt l k = x at *
      obtain ⟨⟨n0, n1, n2, n3, n4, n5, n6, n7⟩, ad, g⟩ := x
      obtain ⟨LO, eLO⟩ : ∃ x, w.heap.size = x := ⟨_, rfl⟩
      obtain ⟨HI1, eHI⟩ : ∃ x, wr.heap.size = x := ⟨_, rfl⟩
      have HL1 := Lib.hid (show Lg w wr [] [(LO, HI1, fun W => OwnIn dvL 10 78 LO HI1 W V L)] from (by
        subst eLO eHI
        exact (⟨hb, fun r hr => (by cases hr), fun n hn => (by cases hn)⟩ : Lg w wr [] []).addNew HO.out.solid (Nat.le_refl _) hb.size (Nat.le_refl _)))
      unfold dvL at HCs
      dsimp only at *
      have HLO := Lib.hid eLO
      clear eLO eHI HO
      obtain ⟨A, hA⟩ : ∃ A, g + 1 = A := ⟨_, rfl⟩
      have hw : IntKind.i64.wrap (g + 1) = A := (IntWalk.i64_in _ (by omega)).trans hA
      unfold olderD at HX
      dsimp only at HX
      rw [hA] at HX
      by_cases h600 : g < 600
      · have HA := Lib.hid h600
        have d0 : decide (A ≤ 600) = true := decide_eq_true (by omega)
        clear h600 hA
        go_wp2_with (first
          | (refine wpList_load_cells rfl 78 (.tmp 15) rfl b (o + k * 10) rfl [.int .i64 n0, .int .i64 n1, .int .i64 n2, .int .i64 n3, .int .i64 n4, .int .i64 n5, .int .i64 n6, .bool n7, .int .i64 ad, .int .i64 g] HCs.out _ Try.underlying78 rfl (by kernel_rfl) ?_)
          | (refine wpList_alloc_h rfl 78 rfl (.agg #[.int .i64 0, .int .i64 0, .int .i64 0, .int .i64 0, .int .i64 0, .int .i64 0, .int .i64 0, .bool false, .int .i64 0, .int .i64 0]) (by kernel_rfl) #[.int .i64 0, .int .i64 0, .int .i64 0, .int .i64 0, .int .i64 0, .int .i64 0, .int .i64 0, .bool false, .int .i64 0, .int .i64 0] rfl ?_; intro w2 R2 e2 g2 b2; have qR2_HI1 : HI1 ≤ R2 := Nat.le_trans (HL1.out.hi (.head _)).2 (Nat.le_of_eq e2); have HL2 := Lib.hid (show Lg w w2 [(R2, #[.int .i64 0, .int .i64 0, .int .i64 0, .int .i64 0, .int .i64 0, .int .i64 0, .int .i64 0, .bool false, .int .i64 0, .int .i64 0], 78)] [(LO, HI1, fun W => OwnIn dvL 10 78 LO HI1 W V L)] from HL1.out.box e2 g2 b2); clear g2 b2 e2)
          | (refine wpList_put_at rfl 78 (.tmp 5) (.tmp 16) rfl rfl (R2) 0 rfl (.agg #[.int .i64 n0, .int .i64 n1, .int .i64 n2, .int .i64 n3, .int .i64 n4, .int .i64 n5, .int .i64 n6, .bool n7, .int .i64 ad, .int .i64 g]) rfl #[.int .i64 n0, .int .i64 n1, .int .i64 n2, .int .i64 n3, .int .i64 n4, .int .i64 n5, .int .i64 n6, .bool n7, .int .i64 ad, .int .i64 g] rfl 78 #[.int .i64 0, .int .i64 0, .int .i64 0, .int .i64 0, .int .i64 0, .int .i64 0, .int .i64 0, .bool false, .int .i64 0, .int .i64 0] #[.int .i64 n0, .int .i64 n1, .int .i64 n2, .int .i64 n3, .int .i64 n4, .int .i64 n5, .int .i64 n6, .bool n7, .int .i64 ad, .int .i64 g] (HL2.out.get (.head _)) (by kernel_rfl) (by kernel_rfl) (by kernel_rfl) (by kernel_rfl) ?_; intro w3 g3 o3; have HL3 := Lib.hid (show Lg w w3 [(R2, #[.int .i64 n0, .int .i64 n1, .int .i64 n2, .int .i64 n3, .int .i64 n4, .int .i64 n5, .int .i64 n6, .bool n7, .int .i64 ad, .int .i64 g], 78)] [(LO, HI1, fun W => OwnIn dvL 10 78 LO HI1 W V L)] from HL2.out.put 0 rfl g3 o3 (fun _ h => nomatch h) (List.forall_mem_cons.2 ⟨.inl qR2_HI1, (fun _ h => nomatch h)⟩) rfl); clear g3 o3)
          | (refine wpList_load_one rfl 2 (.tmp 17) rfl (R2) 9 rfl 78 #[.int .i64 n0, .int .i64 n1, .int .i64 n2, .int .i64 n3, .int .i64 n4, .int .i64 n5, .int .i64 n6, .bool n7, .int .i64 ad, .int .i64 g] (0, 0) (HL3.out.get (.head _)) (.int .i64 g) rfl _ Try.underlying2 rfl (by kernel_rfl) ?_)
          | (refine wpList_put_at rfl 2 (.tmp 20) (.tmp 19) rfl rfl (R2) 9 rfl (.int .i64 A) rfl #[.int .i64 A] rfl 78 #[.int .i64 n0, .int .i64 n1, .int .i64 n2, .int .i64 n3, .int .i64 n4, .int .i64 n5, .int .i64 n6, .bool n7, .int .i64 ad, .int .i64 g] #[.int .i64 n0, .int .i64 n1, .int .i64 n2, .int .i64 n3, .int .i64 n4, .int .i64 n5, .int .i64 n6, .bool n7, .int .i64 ad, .int .i64 A] (HL3.out.get (.head _)) (by kernel_rfl) (by kernel_rfl) (by kernel_rfl) (by kernel_rfl) ?_; intro w4 g4 o4; have HL4 := Lib.hid (show Lg w w4 [(R2, #[.int .i64 n0, .int .i64 n1, .int .i64 n2, .int .i64 n3, .int .i64 n4, .int .i64 n5, .int .i64 n6, .bool n7, .int .i64 ad, .int .i64 A], 78)] [(LO, HI1, fun W => OwnIn dvL 10 78 LO HI1 W V L)] from HL3.out.put 0 rfl g4 o4 (fun _ h => nomatch h) (List.forall_mem_cons.2 ⟨.inl qR2_HI1, (fun _ h => nomatch h)⟩) rfl); clear g4 o4)
          | (refine wpList_load_one rfl 2 (.tmp 21) rfl (R2) 9 rfl 78 #[.int .i64 n0, .int .i64 n1, .int .i64 n2, .int .i64 n3, .int .i64 n4, .int .i64 n5, .int .i64 n6, .bool n7, .int .i64 ad, .int .i64 A] (0, 0) (HL4.out.get (.head _)) (.int .i64 A) rfl _ Try.underlying2 rfl (by kernel_rfl) ?_)
          | (refine wpList_load_at rfl 78 (.tmp 5) rfl (R2) 0 rfl 78 #[.int .i64 n0, .int .i64 n1, .int .i64 n2, .int .i64 n3, .int .i64 n4, .int .i64 n5, .int .i64 n6, .bool n7, .int .i64 ad, .int .i64 A] (0, 0) (HL4.out.get (.head _)) [.int .i64 n0, .int .i64 n1, .int .i64 n2, .int .i64 n3, .int .i64 n4, .int .i64 n5, .int .i64 n6, .bool n7, .int .i64 ad, .int .i64 A] rfl _ Try.underlying78 rfl (by kernel_rfl) ?_)
          | (refine wpList_lit1 dvL_len rfl 24 (.tmp 25) rfl 78 i0 Try.underlying24 HI0.out _ hz0 hz1 ⟨⟨n0, n1, n2, n3, n4, n5, n6, n7⟩, ad, A⟩ (.agg #[.int .i64 n0, .int .i64 n1, .int .i64 n2, .int .i64 n3, .int .i64 n4, .int .i64 n5, .int .i64 n6, .bool n7, .int .i64 ad, .int .i64 A]) rfl rfl (by kernel_rfl) (by decide) (by decide) ?_; intro w20 R20 e20 hin20 b20; have HR20 := Lib.hid hin20; have HL20 := Lib.hid (HL4.out.kept b20); clear e20 hin20 b20)
          | (at_builtin; refine wpList_append_rs dvL_len dvL_one rfl (.tmp 24) (.tmp 26) 24 rfl 78 i0 _ 80 Try.underlying24 HI0.out hz0 hz1 hz2 (by kernel_rfl) (by decide) LO HI1 V L rfl (HL20.out.at (.head _)) _ 1 [⟨⟨n0, n1, n2, n3, n4, n5, n6, n7⟩, ad, A⟩] rfl HR20.out (by have := HLen.out; unfold maxLen; show _ + 1 ≤ _; omega) (by have := HLen.out; show (_ + 1) * 80 ≤ _; omega) (Nat.le_trans (HL20.out.hi (.head _)).1 (HL20.out.hi (.head _)).2) ?_; intro v21 w21 hown21 ho21; have HO21 := Lib.hid hown21; have HU21 := Lib.hid ho21; clear hown21 ho21))
        go_roundw
        case rel =>
          refine ⟨k + 1, _, by go_num, rfl, by omega, ?_, HU21.out.below HL20.out.below (HL20.out.lo (.head _)) HL20.out.below.size⟩
          have h := HO21.out
          rw [HX.out, if_pos HA.out]
          have e := HLO.out
          subst e
          exact h
        case measure => simp [intOf]; omega
      · have HA := Lib.hid h600
        have d0 : decide (A ≤ 600) = false := decide_eq_false (by omega)
        clear h600 hA
        go_wp2_with (first
          | (refine wpList_load_cells rfl 78 (.tmp 15) rfl b (o + k * 10) rfl [.int .i64 n0, .int .i64 n1, .int .i64 n2, .int .i64 n3, .int .i64 n4, .int .i64 n5, .int .i64 n6, .bool n7, .int .i64 ad, .int .i64 g] HCs.out _ Try.underlying78 rfl (by kernel_rfl) ?_)
          | (refine wpList_alloc_h rfl 78 rfl (.agg #[.int .i64 0, .int .i64 0, .int .i64 0, .int .i64 0, .int .i64 0, .int .i64 0, .int .i64 0, .bool false, .int .i64 0, .int .i64 0]) (by kernel_rfl) #[.int .i64 0, .int .i64 0, .int .i64 0, .int .i64 0, .int .i64 0, .int .i64 0, .int .i64 0, .bool false, .int .i64 0, .int .i64 0] rfl ?_; intro w2 R2 e2 g2 b2; have qR2_HI1 : HI1 ≤ R2 := Nat.le_trans (HL1.out.hi (.head _)).2 (Nat.le_of_eq e2); have HL2 := Lib.hid (show Lg w w2 [(R2, #[.int .i64 0, .int .i64 0, .int .i64 0, .int .i64 0, .int .i64 0, .int .i64 0, .int .i64 0, .bool false, .int .i64 0, .int .i64 0], 78)] [(LO, HI1, fun W => OwnIn dvL 10 78 LO HI1 W V L)] from HL1.out.box e2 g2 b2); clear g2 b2 e2)
          | (refine wpList_put_at rfl 78 (.tmp 5) (.tmp 16) rfl rfl (R2) 0 rfl (.agg #[.int .i64 n0, .int .i64 n1, .int .i64 n2, .int .i64 n3, .int .i64 n4, .int .i64 n5, .int .i64 n6, .bool n7, .int .i64 ad, .int .i64 g]) rfl #[.int .i64 n0, .int .i64 n1, .int .i64 n2, .int .i64 n3, .int .i64 n4, .int .i64 n5, .int .i64 n6, .bool n7, .int .i64 ad, .int .i64 g] rfl 78 #[.int .i64 0, .int .i64 0, .int .i64 0, .int .i64 0, .int .i64 0, .int .i64 0, .int .i64 0, .bool false, .int .i64 0, .int .i64 0] #[.int .i64 n0, .int .i64 n1, .int .i64 n2, .int .i64 n3, .int .i64 n4, .int .i64 n5, .int .i64 n6, .bool n7, .int .i64 ad, .int .i64 g] (HL2.out.get (.head _)) (by kernel_rfl) (by kernel_rfl) (by kernel_rfl) (by kernel_rfl) ?_; intro w3 g3 o3; have HL3 := Lib.hid (show Lg w w3 [(R2, #[.int .i64 n0, .int .i64 n1, .int .i64 n2, .int .i64 n3, .int .i64 n4, .int .i64 n5, .int .i64 n6, .bool n7, .int .i64 ad, .int .i64 g], 78)] [(LO, HI1, fun W => OwnIn dvL 10 78 LO HI1 W V L)] from HL2.out.put 0 rfl g3 o3 (fun _ h => nomatch h) (List.forall_mem_cons.2 ⟨.inl qR2_HI1, (fun _ h => nomatch h)⟩) rfl); clear g3 o3)
          | (refine wpList_load_one rfl 2 (.tmp 17) rfl (R2) 9 rfl 78 #[.int .i64 n0, .int .i64 n1, .int .i64 n2, .int .i64 n3, .int .i64 n4, .int .i64 n5, .int .i64 n6, .bool n7, .int .i64 ad, .int .i64 g] (0, 0) (HL3.out.get (.head _)) (.int .i64 g) rfl _ Try.underlying2 rfl (by kernel_rfl) ?_)
          | (refine wpList_put_at rfl 2 (.tmp 20) (.tmp 19) rfl rfl (R2) 9 rfl (.int .i64 A) rfl #[.int .i64 A] rfl 78 #[.int .i64 n0, .int .i64 n1, .int .i64 n2, .int .i64 n3, .int .i64 n4, .int .i64 n5, .int .i64 n6, .bool n7, .int .i64 ad, .int .i64 g] #[.int .i64 n0, .int .i64 n1, .int .i64 n2, .int .i64 n3, .int .i64 n4, .int .i64 n5, .int .i64 n6, .bool n7, .int .i64 ad, .int .i64 A] (HL3.out.get (.head _)) (by kernel_rfl) (by kernel_rfl) (by kernel_rfl) (by kernel_rfl) ?_; intro w4 g4 o4; have HL4 := Lib.hid (show Lg w w4 [(R2, #[.int .i64 n0, .int .i64 n1, .int .i64 n2, .int .i64 n3, .int .i64 n4, .int .i64 n5, .int .i64 n6, .bool n7, .int .i64 ad, .int .i64 A], 78)] [(LO, HI1, fun W => OwnIn dvL 10 78 LO HI1 W V L)] from HL3.out.put 0 rfl g4 o4 (fun _ h => nomatch h) (List.forall_mem_cons.2 ⟨.inl qR2_HI1, (fun _ h => nomatch h)⟩) rfl); clear g4 o4)
          | (refine wpList_load_one rfl 2 (.tmp 21) rfl (R2) 9 rfl 78 #[.int .i64 n0, .int .i64 n1, .int .i64 n2, .int .i64 n3, .int .i64 n4, .int .i64 n5, .int .i64 n6, .bool n7, .int .i64 ad, .int .i64 A] (0, 0) (HL4.out.get (.head _)) (.int .i64 A) rfl _ Try.underlying2 rfl (by kernel_rfl) ?_))
        go_roundw
        case rel =>
          refine ⟨k + 1, _, by go_num, rfl, by omega, ?_, HL4.out.below⟩
          have h := (HL4.out.at (.head _)).wide (HL4.out.hi (.head _)).2
          rw [HX.out, if_neg HA.out, List.append_nil]
          have e := HLO.out
          subst e
          exact h
        case measure => simp [intOf]; omega
    · have hge : N ≤ k := by omega
      have HV := Lib.hid (show l.take k = l from List.take_of_length_le (by have := HN.out; omega))
      clear hkn
      go_wp2_with fail
      go_ret
      obtain ⟨a', cap', rfl, _, hn⟩ := HO.out.new dvL_len
      rw [HV.out] at hn ⊢
      exact ⟨a', cap', rfl, hn, hb⟩
set_option maxRecDepth 100000 in
theorem specDeviceTick_any (a : Option Addr) (cap : Nat) (l : List Dv) (w : World) (h : RsIn dvL 10 w a l) (hlen : l.length ≤ maxLen) :
    Calls Try.prog 9 #[.slice a l.length cap] w (DvOut w (tickDV l)) := by
  obtain ⟨i0, hi, hz0, hz1, hz2⟩ := info_parts DeviceTo.info
  have HI0 := Lib.hid hi
  have HI := Lib.hid h
  have HC := fun W hW => Lib.hid (specDevicesRight_any a cap l W hW hlen)
  unfold tickDV
  clear hi h
  rcases ht : dvsB l
  · rw [ht] at HC
    unfold DvOut
    clear ht
    rw [if_neg (by simp)]
    go_enter Try.func9, Try.ntmps9
    go_wp2_with fail
    refine (HC _ HI.out).out.mono ?_
    rintro e w1 ⟨rfl, h1⟩
    go_wp2_with (refine wpList_lit0 dvL 10 rfl 24 rfl 78 i0 Try.underlying24 HI0.out ?_; intro w2 G e2 hown b2; have HB2 := Lib.hid b2; clear hown b2 e2)
    go_ret
    exact ⟨_, _, rfl, RsNew.nil _, h1.trans (HB2.out.mono h1.size)⟩
  · rw [ht] at HC
    rw [if_pos rfl]
    go_enter Try.func9, Try.ntmps9
    go_wp2_with fail
    refine (HC _ HI.out).out.mono ?_
    rintro e w1 ⟨rfl, h1⟩
    go_wp2_with fail
    refine (l09Tick_any a cap l _ (HI.out.kept h1) ht).mono ?_
    rintro e w2 ⟨a2, c2, rfl, hn2, h2⟩
    go_wp2_with fail
    go_ret
    exact ⟨a2, c2, rfl, hn2.wide h1.size (Nat.le_refl _), h1.trans (h2.mono h1.size)⟩
end Go.Proofs.Ytpolpkheaibonaa
/- Short forms for the laws over lists of Devices. -/
namespace Go.Proofs.Ytpolpkheaibonaa
open Go.RowKit
set_option linter.unusedVariables false
theorem markDvs_1 {lo hi : Nat} (a : Option Addr) (cap : Nat) (l : List Dv) (w : World) (h : RsNew dvL 10 78 lo hi w a l) (hk : l.length ≤ 1100000) :
    Calls Try.prog 13 #[.slice a l.length cap, .int .i64 1] w fun e w' => e = .returned (.int .i64 ((1 + 10 * l.length : Nat) : Int)) ∧ RsNew dvL 10 78 lo hi w' a (marksDv 1 l.length) ∧ Out lo hi w w' :=
  markDeviceS_any a cap l 1 w h (by omega) (by omega)
theorem heldDvs_1 {lo hi : Nat} (a : Option Addr) (cap : Nat) (N : Nat) (w : World) (h : RsNew dvL 10 78 lo hi w a (marksDv 1 N)) (hk : N ≤ 1100000) :
    Calls Try.prog 14 #[.slice a N cap, .int .i64 1] w fun e w' => e = .returned (.int .i64 ((1 + 10 * N : Nat) : Int)) ∧ Below w.heap.size w w' :=
  heldDeviceS_any a cap N 1 w h (by omega) (by omega)
end Go.Proofs.Ytpolpkheaibonaa
/- A tick of a list of Devices: the program's. Nothing that was there is written. -/
namespace Go.Proofs.Ytpolpkheaibonaa
open Go.RowKit Go.Shelf
set_option linter.unusedVariables false
attribute [local go_sem] Oper.semAt_some

set_option maxRecDepth 100000 in
set_option maxHeartbeats 8000000 in
theorem young_any (x : Dv) (W : World) :
    Calls Try.prog 41 #[.agg (dvL x).toArray] W fun e W' => e = .returned (.bool (decide (x.g < 600))) ∧ Below W.heap.size W W' := by
  obtain ⟨⟨m0, m1, m2, m3, m4, m5, m6, m7⟩, ad, g⟩ := x
  unfold dvL
  dsimp only at *
  obtain ⟨D, hD⟩ : ∃ D, decide (g < 600) = D := ⟨_, rfl⟩
  rw [hD]
  go_enter Try.func41, Try.ntmps41
  go_wp2_with (first
    | (refine wpList_box_h rfl 78 (.tmp 0) rfl #[.int .i64 m0, .int .i64 m1, .int .i64 m2, .int .i64 m3, .int .i64 m4, .int .i64 m5, .int .i64 m6, .bool m7, .int .i64 ad, .int .i64 g] rfl ?_; intro w1 R1 e1 g1 b1; have HL1 := Lib.hid (show Lg W w1 [(R1, #[.int .i64 m0, .int .i64 m1, .int .i64 m2, .int .i64 m3, .int .i64 m4, .int .i64 m5, .int .i64 m6, .bool m7, .int .i64 ad, .int .i64 g], 78)] [] from (Lg.first W).box e1 g1 b1); clear g1 b1 e1)
    | (refine wpList_load_one rfl 2 (.tmp 3) rfl (R1) 9 rfl 78 #[.int .i64 m0, .int .i64 m1, .int .i64 m2, .int .i64 m3, .int .i64 m4, .int .i64 m5, .int .i64 m6, .bool m7, .int .i64 ad, .int .i64 g] (0, 0) (HL1.out.get (.head _)) (.int .i64 g) rfl _ Try.underlying2 rfl (by kernel_rfl) ?_))
  go_ret
  exact ⟨rfl, HL1.out.below⟩
/-- The cells of one item that lies in a block of its own. -/
theorem cells_one_item (w : World) (cs : List Value) (T : TypeId) : ∀ j u, cs[j]? = some u → (w.alloc (.cells cs.toArray T)).cell? ((⟨w.heap.size, 0, none⟩ : Addr).add j) = some u := by
  intro j u hj
  have h := World.alloc_heap_new w (.cells cs.toArray T)
  have e : (⟨w.heap.size, 0, none⟩ : Addr).add j = ⟨w.heap.size, j, none⟩ := by unfold Addr.add; split <;> simp_all
  rw [e, cell_of_row _ _ _ _ _ (0, 0) h]
  simpa using hj
theorem dvs_age {l : List Dv} (h : dvsB l = true) : ∀ x ∈ l, 0 ≤ x.g ∧ x.g ≤ 600 := by
  intro x hx
  obtain ⟨i, hi, rfl⟩ := List.getElem_of_mem hx
  have e : l[i] = dvAt l i := by
    have := dvAt_some hi
    rw [List.getElem?_eq_getElem hi] at this
    exact Option.some.inj this
  rw [e]
  exact dvAge_of ((dvsB_of h).2 i hi)
/-- A Device an Age older, as the machine adds. -/
def olderW (x : Dv) : Dv := ⟨x.n, x.ad, IntKind.i64.wrap (x.g + 1)⟩
theorem olderW_all {l : List Dv} (h : ∀ x ∈ l, 0 ≤ x.g ∧ x.g ≤ 600) : (l.filter fun x => decide (x.g < 600)).map olderW = tickD l := by
  unfold tickD
  refine List.map_congr_left fun x hx => ?_
  have := h x ((List.mem_filter.1 hx).1)
  unfold olderW
  rw [IntWalk.i64_in _ (by omega)]
theorem dv_flat_snoc (l : List Dv) (x : Dv) : (l ++ [x]).flatMap dvL = l.flatMap dvL ++ dvL x := by simp
set_option maxRecDepth 100000 in
set_option maxHeartbeats 8000000 in
theorem implDeviceTick_any (a : Option Addr) (cap : Nat) (l : List Dv) (w : World) (h : RsIn dvL 10 w a l) (hlen : l.length ≤ maxLen) (hcap : l.length ≤ cap) :
    Calls Try.prog 11 #[.slice a l.length cap] w (DvOut w (tickDV l)) := by
  have HDR := fun W (hW : RsIn dvL 10 W a l) => Lib.hid (implDevicesRight_any a cap l W hW hlen hcap)
  obtain ⟨i0, hi, hz0, hz1, hz2⟩ := info_parts DeviceTo.info
  unfold DvOut
  refine (callsIn_wide (n := 3)).1 ?_
  refine callsIn_of_wp_marks Try.func11 rfl trivial ?_ rfl
  simp only [Try.ntmps11, List.size_toArray, List.length_cons, List.length_nil, Nat.reduceAdd, Nat.reduceSub, Array.replicate_succ, Array.replicate_zero, List.push_toArray, List.append_toArray, List.nil_append, List.cons_append]
  gi_wp2
  refine ⟨trivial, ?_⟩
  refine (callsIn_wide.2 (HDR _ h).out).mono ?_
  rintro e w3 ⟨rfl, h3⟩
  have HB3 := Lib.hid h3
  have hs3 : w.heap.size ≤ w3.heap.size := h3.size
  clear h3 HDR
  rcases hR : dvsB l with _ | _
  · have HV := Lib.hid (show tickDV l = [] by unfold tickDV; rw [hR]; rfl)
    clear hR
    gi_wp2
    rw [HV.out]
    exact ⟨_, results_tmp rfl _ _ _, none, 0, rfl, RsNew.nil _, HB3.out⟩
  · have HV := Lib.hid (show tickDV l = tickD l by unfold tickDV; rw [hR, if_pos rfl])
    have H8 := Lib.hid (dvsB_of hR)
    have HOk := Lib.hid (dvs_age hR)
    clear hR
    gi_wp2
    refine ⟨trivial, ?_⟩
    refine (callsIn_wide.2 (those_any a l.length cap 41 #[] (w3.alloc (.cells #[.slice none 0 0] 24)))).mono ?_
    rintro e w4 ⟨rfl, hw4⟩
    obtain ⟨B, hB⟩ : ∃ B, w3.heap.size = B := ⟨_, rfl⟩
    have hBs : (w3.alloc (.cells #[.slice none 0 0] 24)).heap.size = B + 1 := by simp [hB]
    have HB4 : Below B w3 w4 := by rw [hw4, ← hB]; exact (((Below.refl _ w3).alloc (Nat.le_refl _) _).alloc (by simp) _).alloc (by simp; omega) _
    have hs4 : w4.heap.size = B + 3 := by rw [hw4]; simp [hB]
    have bK : Boxed w4 B 24 (.slice none 0 0) := by rw [hw4, ← hB]; exact ((Boxed.new w3 _ _).alloc _).alloc _
    have bS : w4.cell? ⟨B + 1, 0, none⟩ = some (.slice a l.length cap) := by rw [hw4, ← hBs]; exact ((Boxed.new _ _ _).alloc _).cell
    have bF : Boxed w4 (B + 1 + 1) 82 (.func (.func 41) #[] #[]) := by
      rw [hw4]
      have := Boxed.new ((w3.alloc (.cells #[.slice none 0 0] 24)).alloc (.cells #[.slice a l.length cap] 24)) 82 (.func (.func 41) #[] #[])
      rw [World.size_alloc, hBs] at this
      exact this
    have HW4 := Lib.hid (HB3.out.trans (HB4.mono (by omega)))
    have HBS := Lib.hid bS
    have HBF := Lib.hid bF
    have HBK := Lib.hid bK
    rw [hBs, hB]
    have hs3' : w.heap.size ≤ B := by omega
    clear hw4 HB4 bS bF bK hBs hB hs3
    gi_wp2
    refine wpIn_rangeFunc_ownH rfl (by omega) (gf := 94) (lb := #[.pointer (some ⟨B + 1, 0, none⟩), .pointer (some ⟨B + 1 + 1, 0, none⟩)]) rfl trivial (enters_of Try.func94 (by kernel_rfl) rfl)
      (those_stops 2 (by omega) (B + 1) (B + 1 + 1) B a cap l (fun x => decide (x.g < 600)) 41 #[] (enters_of Try.func41 (by kernel_rfl) rfl) hlen w4 (by omega) (by omega) (by omega)
        (fun x W' hW => young_any x W') HBS.out HBF.out.cell (fun W' hW => h.kept (HW4.out.trans (hW.mono hs3'))))
      kpB_t (kpB_b (by omega) (by omega)) (Below.refl _ _) (fun _ => rfl)
      (fun (pre : List Dv) W => (∃ v, Boxed W B 24 v ∧ W.ownsRow B 78 10 v (pre.map olderW).length ((pre.map olderW).flatMap dvL) ∧ (pre = pre)) ∧ (Boxed W (B + 1 + 1) 82 (.func (.func 41) #[] #[]) ∧ Below B w4 W))
      (fun _ _ _ => False)
      (OwnFrom.and (Own.from (holdsRow_own B B 24 78 10 (fun (pre : List Dv) => (pre.map olderW).length) (fun (pre : List Dv) => (pre.map olderW).flatMap dvL) (fun (pre : List Dv) _ => pre = pre)) _) (OwnFrom.and (Own.from (boxed_own _ _ _) _) (ownFrom_below (by omega) (by omega))))
      (fun _ _ _ _ _ hs _ _ => hs)
      ⟨⟨_, HBK.out, World.ownsRow_nil _ _ _ _, rfl⟩, HBF.out, Below.refl _ _⟩
      (fun x a' W => ∃ Bx v, B < Bx ∧ W.heap[Bx]? = some (.cells (dvL x).toArray 78 (0, 0)) ∧ (Boxed W B 24 v ∧ v.ownBlock ≠ some Bx ∧ B + 3 ≤ Bx) ∧ a' = { tmps := #[.slice a l.length cap, undef, .slice none 0 0, .func (.func 41) #[] #[], .pointer (some ⟨B, 0, none⟩), .pointer (some ⟨Bx, 0, none⟩), .slice a l.length cap, .bool true, .bool false, .slice a l.length cap, .func (.func 41) #[] #[], .func (.func 94) #[] #[.pointer (some ⟨B + 1, 0, none⟩), .pointer (some ⟨B + 1 + 1, 0, none⟩)], .agg (dvL x).toArray, undef, undef, undef, undef, undef, undef, undef, undef, undef], defers := [] })
      (fun x a' _ X Y row hs hg hr => by obtain ⟨Bx, v, e1, e2, ⟨e4, e5, e6⟩, e3⟩ := hs; exact ⟨Bx, v, e1, (grownBy_keeps_cells hg (fun r e => (hr r e).2) e2 rfl).trans e2, ⟨(grownBy_keeps_cells hg (fun r e => (hr r e).2) e4 rfl).trans e4, e5, e6⟩, e3⟩)
      ?assign ?body ?done ?stop
    case assign =>
      rintro lp pre x W K ⟨⟨v, bV, hrow, hp⟩, bF, hB⟩ hK
      obtain ⟨⟨m0, m1, m2, m3, m4, m5, m6, m7⟩, ad, g⟩ := x
      have hKK := Lib.hid hK
      have hWs : B + 3 ≤ W.heap.size := by have := hB.size; omega
      have hrr := Lib.hid (hrow.alloc (.cells #[.int .i64 m0, .int .i64 m1, .int .i64 m2, .int .i64 m3, .int .i64 m4, .int .i64 m5, .int .i64 m6, .bool m7, .int .i64 ad, .int .i64 g] 78))
      have hne : v.ownBlock ≠ some W.heap.size := fun e => Nat.lt_irrefl _ (World.ownsRow.lt hrow _ e).2
      clear hK hrow
      unfold dvL
      gi_wp2
      exact hKK.out _ _ ((KeepsOthers.alloc _ _).from _) ⟨(Below.refl _ W).alloc (by omega) _, Below.heap_alloc _ _ _ (by omega)⟩ ⟨⟨v, bV.alloc _, hrr.out, hp⟩, bF.alloc _, hB.alloc (by omega) _⟩ ⟨W.heap.size, v, by omega, World.alloc_heap_new W _, ⟨bV.alloc _, hne, hWs⟩, rfl⟩
    case body =>
      rintro lp pre x a' W hl _ ⟨⟨v, bV, hrow, -⟩, bF, hB⟩ ⟨Bx, v2, hBx, bX, ⟨bV2, hne, hB3⟩, rfl⟩ hlt
      have hvv : v = v2 := by
        have := (show W.heap[B]? = _ from bV).symm.trans bV2
        simpa using this
      subst hvv
      have hlt8 := H8.out.1
      have lX : Bx < W.heap.size := (Array.getElem?_eq_some_iff.1 bX).1
      obtain ⟨⟨m0, m1, m2, m3, m4, m5, m6, m7⟩, ad, g⟩ := x
      have hsn := dv_flat_snoc (pre.map olderW) (olderW ⟨⟨m0, m1, m2, m3, m4, m5, m6, m7⟩, ad, g⟩)
      have hmap : (pre ++ [(⟨⟨m0, m1, m2, m3, m4, m5, m6, m7⟩, ad, g⟩ : Dv)]).map olderW = pre.map olderW ++ [olderW ⟨⟨m0, m1, m2, m3, m4, m5, m6, m7⟩, ad, g⟩] := by simp
      unfold dvL at bX
      have hsn' : (pre.map olderW ++ [olderW ⟨⟨m0, m1, m2, m3, m4, m5, m6, m7⟩, ad, g⟩]).flatMap dvL = (pre.map olderW).flatMap dvL ++ [.int .i64 m0, .int .i64 m1, .int .i64 m2, .int .i64 m3, .int .i64 m4, .int .i64 m5, .int .i64 m6, .bool m7, .int .i64 ad, .int .i64 (IntKind.i64.wrap (g + 1))] := hsn
      obtain ⟨A, hA⟩ : ∃ A, IntKind.i64.wrap (g + 1) = A := ⟨_, rfl⟩
      rw [hA] at hsn'
      have HS := Lib.hid (And.intro hmap hsn')
      clear hsn hsn' hmap
      have hplen : (pre.map olderW).length = pre.length := List.length_map _
      generalize pre.map olderW = P at *
      rw [hplen] at hrow
      have c9 : W.cell? ⟨Bx, 9, none⟩ = some (.int .i64 g) := cell_of_row W Bx 9 _ _ (0, 0) bX
      have f9 := frozen_of_row W Bx 9 _ _ bX
      obtain ⟨W1, hW1⟩ : ∃ W1, W.setCell ⟨Bx, 9, none⟩ (.int .i64 A) = W1 := ⟨_, rfl⟩
      have hX1 : W1.heap[Bx]? = some (.cells #[.int .i64 m0, .int .i64 m1, .int .i64 m2, .int .i64 m3, .int .i64 m4, .int .i64 m5, .int .i64 m6, .bool m7, .int .i64 ad, .int .i64 A] 78 (0, 0)) := by
        rw [← hW1]
        exact heap_setCell_same W Bx 9 _ _ (.int .i64 A) bX
      have bV1 : Boxed W1 B 24 v := by rw [← hW1]; exact (Below.heap_setCell W ⟨Bx, 9, none⟩ _ B (by simp; omega)).trans bV
      have bF1 : Boxed W1 (B + 1 + 1) 82 (.func (.func 41) #[] #[]) := by rw [← hW1]; exact (Below.heap_setCell W ⟨Bx, 9, none⟩ _ (B + 1 + 1) (by simp; omega)).trans bF
      have hrow1 : W1.ownsRow B 78 10 v pre.length (P.flatMap dvL) := by rw [← hW1]; exact owns_set hrow hne _
      have hB1 : Below B W W1 := by rw [← hW1]; exact (Below.refl B W).setCell (p := ⟨Bx, 9, none⟩) (by show B ≤ Bx; omega) _
      have hK1 : KeepsOthers W W1 := by rw [← hW1]; exact KeepsOthers.setCell _ _ _
      have e0 : W1.cell? ⟨Bx, 0, none⟩ = some (.int .i64 m0) := cell_of_row W1 Bx 0 _ _ (0, 0) hX1
      have e1 : W1.cell? ⟨Bx, 1, none⟩ = some (.int .i64 m1) := cell_of_row W1 Bx 1 _ _ (0, 0) hX1
      have e2 : W1.cell? ⟨Bx, 2, none⟩ = some (.int .i64 m2) := cell_of_row W1 Bx 2 _ _ (0, 0) hX1
      have e3 : W1.cell? ⟨Bx, 3, none⟩ = some (.int .i64 m3) := cell_of_row W1 Bx 3 _ _ (0, 0) hX1
      have e4 : W1.cell? ⟨Bx, 4, none⟩ = some (.int .i64 m4) := cell_of_row W1 Bx 4 _ _ (0, 0) hX1
      have e5 : W1.cell? ⟨Bx, 5, none⟩ = some (.int .i64 m5) := cell_of_row W1 Bx 5 _ _ (0, 0) hX1
      have e6 : W1.cell? ⟨Bx, 6, none⟩ = some (.int .i64 m6) := cell_of_row W1 Bx 6 _ _ (0, 0) hX1
      have e7 : W1.cell? ⟨Bx, 7, none⟩ = some (.bool m7) := cell_of_row W1 Bx 7 _ _ (0, 0) hX1
      have e8 : W1.cell? ⟨Bx, 8, none⟩ = some (.int .i64 ad) := cell_of_row W1 Bx 8 _ _ (0, 0) hX1
      have e9 : W1.cell? ⟨Bx, 9, none⟩ = some (.int .i64 A) := cell_of_row W1 Bx 9 _ _ (0, 0) hX1
      have hc := bV1.cell
      have hs1 : B ≤ W1.heap.size := by have := hX1; have := (Array.getElem?_eq_some_iff.1 this).1; omega
      have HQ := Lib.hid (And.intro bV (And.intro bF (And.intro hrow (And.intro bX (And.intro bV2 hX1)))))
      clear bV bF hrow bX bV2 hX1
      gi_wp2_with (gi_at_builtin; refine wpListIn_append_own _ rfl _ _ 24 rfl B 78 i0 _ 10 80 Try.underlying24 hi hz0 hz1 hz2 (by kernel_rfl) (by decide) v pre.length (P.flatMap dvL) rfl (hrow1.alloc _) ⟨W1.heap.size, 0, none⟩ 1 1 [.int .i64 m0, .int .i64 m1, .int .i64 m2, .int .i64 m3, .int .i64 m4, .int .i64 m5, .int .i64 m6, .bool m7, .int .i64 ad, .int .i64 A] rfl rfl (cells_one_item _ _ _) (dvL_one ⟨⟨m0, m1, m2, m3, m4, m5, m6, m7⟩, ad, A⟩) (by unfold maxLen; omega) (by omega) (by have := hs1; simp; omega) ?_; intro v' w1 hown' hgrow _; obtain ⟨g', cap', rfl⟩ := ownsRow_succ hown'; obtain ⟨hv1, hv2, hr2, hk2, hb2⟩ := bV1.appended (by decide) hrow1 hs1 (Nat.le_refl _) hown' hgrow; have hc1 := hv1.cell; have hf1 := hv1.frozen)
      have bV := HQ.out.1
      have bF := HQ.out.2.1
      have hbF : (w1.setCell ⟨B, 0, none⟩ (.slice (some ⟨g', 0, none⟩) (pre.length + 1) cap')).heap[B + 1 + 1]? = W.heap[B + 1 + 1]? := by
        refine (Below.heap_setCell w1 ⟨B, 0, none⟩ _ (B + 1 + 1) (by show B + 1 + 1 ≠ B; omega)).trans ?_
        refine ((bF1.alloc _).kept hgrow (bF1.not_row (by decide) hrow1)).trans bF.symm
      have bF2 : Boxed (w1.setCell ⟨B, 0, none⟩ (.slice (some ⟨g', 0, none⟩) (pre.length + 1) cap')) (B + 1 + 1) 82 (.func (.func 41) #[] #[]) := hbF.trans bF
      exact ⟨(hK1.trans hk2).from _, ⟨hB1.trans hb2, hbF⟩, ⟨_, hv2, by rw [HS.out.1, HS.out.2, List.length_append]; exact hr2⟩, bF2, hB.trans (hB1.trans hb2)⟩
    case done =>
      rintro D ys W hD rfl ⟨⟨v, bV, hrow, -⟩, -, hB⟩ hK
      have hc := bV.cell
      gi_wp2
      refine ⟨by simp, .inl ⟨_, _, rfl, run_takeDeferred hK, ?_⟩⟩
      have hr2 := ownsRow_putObj hrow (.deferred none) hK rfl
      obtain ⟨a', cap', rfl, _, hn⟩ := RsNew.of_owns dvL_len hr2
      rw [olderW_all HOk.out] at hn ⊢
      rw [HV.out]
      exact ⟨_, results_tmp rfl _ _ _, a', cap', rfl, hn.wide hs3' (Nat.le_refl _), HW4.out.trans ((hB.mono hs3').trans (belowK_b (w := w4) (by omega) W D _ _ (by omega) hK rfl rfl))⟩
    case stop =>
      rintro D c pre W _ _ hh _
      exact hh.elim
end Go.Proofs.Ytpolpkheaibonaa
