/- Several texts in one, each with its own head: what is proved, and of what, stands there. -/
import Derived.Test.YtioldepgoodipaaGreatNsD
import Derived.Test.YtioldepgoodipaaGreatNsA
import Derived.Test.YtioldepgoodipaaGreatNsE
import Derived.RangeFuncNested
import Derived.RangeFuncBound
import Derived.RangeFuncCalls
import Derived.RangeFuncLeaves
import Derived.Shelf.Abstract
import Derived.Shelf.RegionOpen
import Derived.WalkKit
import Derived.OwnWalkIn
import Derived.TacticsInMore
import Derived.LoopNIn
import Derived.LoopIn
import Derived.Maps.AppendAt
import Derived.RangeFuncBox
import Derived.Test.YtioldepgoodipaaGreatNsG
import Derived.Test.YtioldepgoodipaaGreatNsF
namespace Go.Proofs.YtioldepgoodipaaGreat
open Go.RowKit
set_option linter.unusedVariables false

end Go.Proofs.YtioldepgoodipaaGreat
namespace Go.Proofs.YtioldepgoodipaaGreat
open Go.RowKit
set_option linter.unusedVariables false

end Go.Proofs.YtioldepgoodipaaGreat
namespace Go.Proofs.YtioldepgoodipaaGreat
open Go.RowKit Go.Shelf
set_option linter.unusedVariables false
attribute [local go_sem] Oper.semAt_some

abbrev qH0 (v0 : Nd) (p1 : Option Addr) (p2 : Nat) (p3 : Nat) (p4 : Option Addr) (p5 : Nat) (p6 : Nat) (p7 : Option Addr) (p8 : Nat) (p9 : Nat) (p10 : Option Addr) (p11 : Nat) (p12 : Nat) (p13 : Option Addr) (p14 : Nat) (p15 : Nat) (p16 : Int) : Array Value := #[.int .i64 v0.c.n.u, .int .i64 v0.c.n.m, .int .i64 v0.c.n.i, .int .i64 v0.c.n.f, .int .i64 v0.c.n.c, .int .i64 v0.c.n.s, .int .i64 v0.c.n.y, .bool v0.c.n.a, .int .i64 v0.c.ad, .int .i64 v0.c.st, .int .i64 v0.c.lf, .slice p1 p2 p3, .slice p4 p5 p6, .slice p7 p8 p9, .slice p10 p11 p12, .slice p13 p14 p15, .int .i64 p16]
abbrev qH1 : Array Value := #[.int .i64 0, .int .i64 0, .int .i64 0, .int .i64 0, .int .i64 0, .int .i64 0, .int .i64 0, .bool false, .int .i64 0, .int .i64 0, .int .i64 0, .slice none 0 0, .slice none 0 0, .slice none 0 0, .slice none 0 0, .slice none 0 0, .int .i64 0]
abbrev qH2 (v0 : Nd) (p1 : Option Addr) (p2 : Nat) (p3 : Nat) : Array Value := #[.int .i64 v0.c.n.u, .int .i64 v0.c.n.m, .int .i64 v0.c.n.i, .int .i64 v0.c.n.f, .int .i64 v0.c.n.c, .int .i64 v0.c.n.s, .int .i64 v0.c.n.y, .bool v0.c.n.a, .int .i64 v0.c.ad, .int .i64 v0.c.st, .int .i64 v0.c.lf, .slice p1 p2 p3]
abbrev qH3 : Array Value := #[.int .i64 0, .int .i64 0, .int .i64 0, .int .i64 0, .int .i64 0, .int .i64 0, .int .i64 0, .bool false, .int .i64 0, .int .i64 0, .int .i64 0, .slice none 0 0, .slice none 0 0, .slice none 0 0, .slice none 0 0, .slice none 0 0, .int .i64 0, .int .i64 0]
abbrev qH4 : Array Value := #[.slice none 0 0, .int .i64 0, .string ByteArray.empty, .int .i64 0]
abbrev qH5 (p0 : Option Addr) (p1 : Nat) (p2 : Nat) : Array Value := #[.slice p0 p1 p2, .int .i64 0, .string ⟨#[]⟩, .int .i64 9]
abbrev qH6 : Array Value := #[.int .i64 0, .int .i64 0, .int .i64 0, .int .i64 0, .int .i64 0, .int .i64 0, .int .i64 0, .bool false, .int .i64 0, .int .i64 0, .int .i64 0, .slice none 0 0, .slice none 0 0, .slice none 0 0, .slice none 0 0, .slice none 0 0, .int .i64 0, .int .i64 9]
abbrev qH7 (p0 : Option Addr) (p1 : Nat) (p2 : Nat) : Array Value := #[.slice p0 p1 p2, .int .i64 0, .string ⟨#[]⟩, .int .i64 0]
abbrev qH8 (p0 : Int) : Array Value := #[.int .i64 0, .int .i64 0, .int .i64 0, .int .i64 0, .int .i64 0, .int .i64 0, .int .i64 0, .bool false, .int .i64 0, .int .i64 0, .int .i64 0, .slice none 0 0, .slice none 0 0, .slice none 0 0, .slice none 0 0, .slice none 0 0, .int .i64 0, .int .i64 p0]
abbrev qH9 : Array Value := #[.int .i64 0, .int .i64 0, .int .i64 0, .int .i64 0, .int .i64 0, .int .i64 0, .int .i64 0, .bool false, .int .i64 0, .int .i64 0, .int .i64 0, .slice none 0 0, .slice none 0 0, .slice none 0 0, .slice none 0 0, .slice none 0 0, .int .i64 0, .int .i64 10]
theorem qHm3 {α : Type _} {a0 a1 a2 a3 : α} {l : List α} : a3 ∈ a0 :: a1 :: a2 :: a3 :: l := (.tail _ (.tail _ (.tail _ (.head _))))
theorem qHm2 {α : Type _} {a0 a1 a2 : α} {l : List α} : a2 ∈ a0 :: a1 :: a2 :: l := (.tail _ (.tail _ (.head _)))
theorem qHm1 {α : Type _} {a0 a1 : α} {l : List α} : a1 ∈ a0 :: a1 :: l := (.tail _ (.head _))
theorem qHf {α : Type _} {p : α → Prop} {a : α} {l : List α} (h : p a ∧ ∀ x ∈ l, p x) : ∀ x ∈ a :: l, p x := List.forall_mem_cons.2 h
def KpB (n₀ Bb : Nat) (A B : World) : Prop := Below n₀ A B ∧ B.heap[Bb]? = A.heap[Bb]?
end Go.Proofs.YtioldepgoodipaaGreat
namespace Go.Proofs.YtioldepgoodipaaGreat
open Go.RowKit Go.Shelf
set_option linter.unusedVariables false
attribute [local go_sem] Oper.semAt_some

def headAd : List Dv → Int
 | x :: _ => x.ad
 | [] => 0
end Go.Proofs.YtioldepgoodipaaGreat
namespace Go.Proofs.YtioldepgoodipaaGreat
open Go.RowKit Go.Shelf
set_option linter.unusedVariables false
attribute [local go_sem] Oper.semAt_some

def olderW (x : Dv) : Dv := ⟨x.n, x.ad, IntKind.i64.wrap (x.g + 1)⟩
end Go.Proofs.YtioldepgoodipaaGreat
namespace Go.Proofs.YtioldepgoodipaaGreat
open Go.RowKit
set_option linter.unusedVariables false

end Go.Proofs.YtioldepgoodipaaGreat
namespace Go.Proofs.YtioldepgoodipaaGreat
open Go.RowKit
set_option linter.unusedVariables false

def ndTickO (x : Nd) : Nd × Int := if ndB x = true then (ndTick x, 0) else (ndZ, 1)
set_option maxRecDepth 100000 in
set_option maxHeartbeats 32000000 in
theorem atWork_any (x : Nd) (a1 a2 a3 a4 a5 : Option Addr) (c1 c2 c3 c4 c5 : Nat) (w : World) :
  Calls Tryz.prog 46 #[ndV x a1 a2 a3 a4 a5 c1 c2 c3 c4 c5] w fun e w' => e = .returned (ndV x a1 a2 a3 a4 a5 c1 c2 c3 c4 c5) ∧ Below w.heap.size w w' := by
 unfold ndV
 go_enter Tryz.func46, Tryz.ntmps46
 go_wp2_with (first
  | (refine wpList_box_h rfl 48 (.tmp 0) rfl #[.int .i64 x.c.n.u, .int .i64 x.c.n.m, .int .i64 x.c.n.i, .int .i64 x.c.n.f, .int .i64 x.c.n.c, .int .i64 x.c.n.s, .int .i64 x.c.n.y, .bool x.c.n.a, .int .i64 x.c.ad, .int .i64 x.c.st, .int .i64 x.c.lf, .slice a1 x.c.tk.length c1, .slice a2 x.q.length c2, .slice a3 x.t.length c3, .slice a4 x.d.length c4, .slice a5 x.g.length c5, .int .i64 x.s] rfl ?_; intro w1 R1 e1 g1 b1; have HL1 := Lib.hid (show Lg w w1 [(R1, (qH0 x a1 x.c.tk.length c1 a2 x.q.length c2 a3 x.t.length c3 a4 x.d.length c4 a5 x.g.length c5 x.s), 48)] [] from (Lg.first w).box e1 g1 b1); clear g1 b1 e1)
  | (refine wpList_alloc_h rfl 104 rfl (.agg #[.int .i64 0, .int .i64 0, .int .i64 0, .int .i64 0, .int .i64 0, .int .i64 0, .int .i64 0, .bool false, .int .i64 0, .int .i64 0, .int .i64 0, .slice none 0 0, .slice none 0 0, .slice none 0 0, .slice none 0 0, .slice none 0 0, .int .i64 0]) (by kernel_rfl) #[.int .i64 0, .int .i64 0, .int .i64 0, .int .i64 0, .int .i64 0, .int .i64 0, .int .i64 0, .bool false, .int .i64 0, .int .i64 0, .int .i64 0, .slice none 0 0, .slice none 0 0, .slice none 0 0, .slice none 0 0, .slice none 0 0, .int .i64 0] rfl ?_; intro w2 R2 e2 g2 b2; have qR2_R1 : R1 < R2 := Nat.lt_of_lt_of_eq (HL1.out.lt (.head _)) e2; have HL2 := Lib.hid (show Lg w w2 [(R2, (qH1), 104), (R1, (qH0 x a1 x.c.tk.length c1 a2 x.q.length c2 a3 x.t.length c3 a4 x.d.length c4 a5 x.g.length c5 x.s), 48)] [] from HL1.out.box e2 g2 b2); clear g2 b2 e2)
  | (refine wpList_load_at rfl 40 (.tmp 3) rfl (R1) 0 rfl 48 (qH0 x a1 x.c.tk.length c1 a2 x.q.length c2 a3 x.t.length c3 a4 x.d.length c4 a5 x.g.length c5 x.s) (0, 0) (HL2.out.get qHm1) [.int .i64 x.c.n.u, .int .i64 x.c.n.m, .int .i64 x.c.n.i, .int .i64 x.c.n.f, .int .i64 x.c.n.c, .int .i64 x.c.n.s, .int .i64 x.c.n.y, .bool x.c.n.a, .int .i64 x.c.ad, .int .i64 x.c.st, .int .i64 x.c.lf, .slice a1 x.c.tk.length c1] rfl _ Tryz.underlying40 rfl (by kernel_rfl) ?_)
  | (refine wpList_load_at rfl 43 (.tmp 5) rfl (R1) 12 rfl 48 (qH0 x a1 x.c.tk.length c1 a2 x.q.length c2 a3 x.t.length c3 a4 x.d.length c4 a5 x.g.length c5 x.s) (0, 0) (HL2.out.get qHm1) [.slice a2 x.q.length c2] rfl _ Tryz.underlying43 rfl (by kernel_rfl) ?_)
  | (refine wpList_load_one rfl 44 (.tmp 7) rfl (R1) 13 rfl 48 (qH0 x a1 x.c.tk.length c1 a2 x.q.length c2 a3 x.t.length c3 a4 x.d.length c4 a5 x.g.length c5 x.s) (0, 0) (HL2.out.get qHm1) (.slice a3 x.t.length c3) rfl _ Tryz.underlying44 rfl (by kernel_rfl) ?_)
  | (refine wpList_load_one rfl 45 (.tmp 9) rfl (R1) 14 rfl 48 (qH0 x a1 x.c.tk.length c1 a2 x.q.length c2 a3 x.t.length c3 a4 x.d.length c4 a5 x.g.length c5 x.s) (0, 0) (HL2.out.get qHm1) (.slice a4 x.d.length c4) rfl _ Tryz.underlying45 rfl (by kernel_rfl) ?_)
  | (refine wpList_load_one rfl 46 (.tmp 11) rfl (R1) 15 rfl 48 (qH0 x a1 x.c.tk.length c1 a2 x.q.length c2 a3 x.t.length c3 a4 x.d.length c4 a5 x.g.length c5 x.s) (0, 0) (HL2.out.get qHm1) (.slice a5 x.g.length c5) rfl _ Tryz.underlying46 rfl (by kernel_rfl) ?_)
  | (refine wpList_load_one rfl 2 (.tmp 13) rfl (R1) 16 rfl 48 (qH0 x a1 x.c.tk.length c1 a2 x.q.length c2 a3 x.t.length c3 a4 x.d.length c4 a5 x.g.length c5 x.s) (0, 0) (HL2.out.get qHm1) (.int .i64 x.s) rfl _ Tryz.underlying2 rfl (by kernel_rfl) ?_)
  | (refine wpList_put_at rfl 104 (.tmp 2) (.tmp 15) rfl rfl (R2) 0 rfl _ rfl #[.int .i64 x.c.n.u, .int .i64 x.c.n.m, .int .i64 x.c.n.i, .int .i64 x.c.n.f, .int .i64 x.c.n.c, .int .i64 x.c.n.s, .int .i64 x.c.n.y, .bool x.c.n.a, .int .i64 x.c.ad, .int .i64 x.c.st, .int .i64 x.c.lf, .slice a1 x.c.tk.length c1, .slice a2 x.q.length c2, .slice a3 x.t.length c3, .slice a4 x.d.length c4, .slice a5 x.g.length c5, .int .i64 x.s] rfl 104 (qH1) (qH0 x a1 x.c.tk.length c1 a2 x.q.length c2 a3 x.t.length c3 a4 x.d.length c4 a5 x.g.length c5 x.s) (HL2.out.get (.head _)) (by kernel_rfl) (by kernel_rfl) (by kernel_rfl) (by kernel_rfl) ?_; intro w3 g3 o3; have HL3 := Lib.hid (show Lg w w3 [(R2, (qH0 x a1 x.c.tk.length c1 a2 x.q.length c2 a3 x.t.length c3 a4 x.d.length c4 a5 x.g.length c5 x.s), 104), (R1, (qH0 x a1 x.c.tk.length c1 a2 x.q.length c2 a3 x.t.length c3 a4 x.d.length c4 a5 x.g.length c5 x.s), 48)] [] from HL2.out.put 0 rfl g3 o3 (qHf ⟨Nat.ne_of_lt qR2_R1, (fun _ h => nomatch h)⟩) (fun _ h => nomatch h) rfl); clear g3 o3))
 exact bodyPost_ret (results_cell_row (p := 2) (ty := 104) (by kernel_rfl) _ _ (R2) 104 _ (0, 0) _ rfl (HL3.out.get (.head _)) Tryz.underlying104 rfl (by kernel_rfl)) rfl ⟨rfl, HL3.out.below⟩
end Go.Proofs.YtioldepgoodipaaGreat
namespace Go.Proofs.YtioldepgoodipaaGreat
open Go.RowKit Go.Joins
set_option linter.unusedVariables false

section
variable {P : Program} {o : Oper} {a : Act} {w : World} {K : Act → World → Prop} {Q : Exit → Act → World → Prop}
theorem ob_lit1_row {size : Nat} (t : TypeId) (y : Operand) (ho : o.op = .buildSlice t 1 #[(0, y)]) (e : TypeId) (i : TypeInfo) (ht : P.underlying t = some (.slice e)) (hi : P.info? e = some i)
  (z : Value) (hz : i.zero = some z) (hsize : i.size = size) (cs : List Value) (v : Value) (hy : a.eval y = v) (hv : v.cells = cs.toArray) (hc : cs.length = size) (hzs : z.cells.size = size) (hsz : 0 < size) (hmax : size ≤ 16777216)
  (h : K (a.put o.dst (.slice (some ⟨w.heap.size, 0, none⟩) 1 1)) (w.alloc (.cells cs.toArray e))) : o.wp P a w K Q := by
 unfold Oper.wp execOp
 simp [ho, Instr.buildSlice, run_underlying ht, sizeOf, typeInfo, hi, hz, zeroValue, Instr.fill, newRow, -run_newObj, Result.andThen_ok, hy, hv, hc, hsize, show ¬ 16777216 < size by omega, show ¬ size = 0 by omega]
 rw [fold_set _ _ 0 (by simp [hc])]
 simp [-run_newObj]
 exact h
end
def QOutN (w : World) (L : List (Int × ByteArray)) (c : Int) (e : Ending) (w' : World) : Prop :=
 ∃ a cap, e = .returned (.agg #[.slice a L.length cap, .int .i64 0, .string ⟨#[]⟩, .int .i64 c]) ∧ RsNew canL 2 66 w.heap.size w'.heap.size w' a L ∧ Below w.heap.size w w'
end Go.Proofs.YtioldepgoodipaaGreat
namespace Go.Proofs.YtioldepgoodipaaGreat
open Go.RowKit
set_option linter.unusedVariables false

theorem sndC_take' {r p ad : Int} {F : List ByteArray} {k : Nat} {y : ByteArray} (h : F[k]? = some y) : sndC r p ad (F.take (k + 1)) = sndC r p ad (F.take k) ++ [(idN r p 255 ad, y)] := by
 unfold sndC
 rw [List.take_add_one, h]
 simp
set_option maxRecDepth 100000 in
set_option maxHeartbeats 32000000 in
theorem holding_any (x : Nd) (a1 : Option Addr) (c1 : Nat) (w : World) :
  Calls Tryz.prog 47 #[.agg #[.int .i64 x.c.n.u, .int .i64 x.c.n.m, .int .i64 x.c.n.i, .int .i64 x.c.n.f, .int .i64 x.c.n.c, .int .i64 x.c.n.s, .int .i64 x.c.n.y, .bool x.c.n.a, .int .i64 x.c.ad, .int .i64 x.c.st, .int .i64 x.c.lf, .slice a1 x.c.tk.length c1]] w fun e w' => e = .returned (.bool (x.c.st == 2)) ∧ Below w.heap.size w w' := by
 go_enter Tryz.func47, Tryz.ntmps47
 go_wp2_with (first
  | (refine wpList_box_h rfl 40 (.tmp 0) rfl #[.int .i64 x.c.n.u, .int .i64 x.c.n.m, .int .i64 x.c.n.i, .int .i64 x.c.n.f, .int .i64 x.c.n.c, .int .i64 x.c.n.s, .int .i64 x.c.n.y, .bool x.c.n.a, .int .i64 x.c.ad, .int .i64 x.c.st, .int .i64 x.c.lf, .slice a1 x.c.tk.length c1] rfl ?_; intro w1 R1 e1 g1 b1; have HL1 := Lib.hid (show Lg w w1 [(R1, (qH2 x a1 x.c.tk.length c1), 40)] [] from (Lg.first w).box e1 g1 b1); clear g1 b1 e1)
  | (refine wpList_load_one rfl 2 (.tmp 3) rfl (R1) 9 rfl 40 (qH2 x a1 x.c.tk.length c1) (0, 0) (HL1.out.get (.head _)) (.int .i64 x.c.st) rfl _ Tryz.underlying2 rfl (by kernel_rfl) ?_))
 go_ret
 exact ⟨rfl, HL1.out.below⟩
def sndE (x : Nd) (p : Int) (l : List Vl) : Int := if 400 < l.length then 2 else if (ndB x && vrB p l) = false then 1 else 0
set_option maxRecDepth 100000 in
set_option maxHeartbeats 32000000 in
theorem sendFault_any (x : Nd) (a1 a2 a3 a4 a5 : Option Addr) (c1 c2 c3 c4 c5 : Nat) (p : Int) (b : Option Addr) (d : Nat) (l : List Vl) (w : World) (h : NdIn w a1 a2 a3 a4 a5 x) (hok : NdOk x) (hs : NdSmall x) (hc4 : x.d.length ≤ c4) (hl : RsIn vlL 2 w b l) (hlen : l.length ≤ maxLen) :
  Calls Tryz.prog 45 #[ndV x a1 a2 a3 a4 a5 c1 c2 c3 c4 c5, .int .i64 p, .slice b l.length d] w fun e w' => e = .returned (.int .i64 (sndE x p l)) ∧ Below w.heap.size w w' := by
 have HR := fun W (hW : NdIn W a1 a2 a3 a4 a5 x) => Lib.hid (implNodeRight_any x a1 a2 a3 a4 a5 c1 c2 c3 c4 c5 W hW hok hs hc4)
 have HV := fun W (hW : RsIn vlL 2 W b l) => Lib.hid (implValuesRight_any p b d l W hW hlen)
 have HI := Lib.hid h
 have HL := Lib.hid hl
 have HO := Lib.hid (show sndE x p l = if 400 < l.length then 2 else if (ndB x && vrB p l) = false then 1 else 0 from rfl)
 generalize sndE x p l = O at *
 obtain ⟨N, hN⟩ : ∃ N, l.length = N := ⟨_, rfl⟩
 by_cases h4 : 400 < N
 ·have hd : decide (400 < (N : Int)) = true := decide_eq_true (by omega)
  have ho : O = 2 := by rw [HO.out, hN, if_pos h4]
  rw [ho]
  clear HO ho hok hs hl hlen h hc4
  rw [hN]
  clear hN
  unfold ndV at *
  go_enter Tryz.func45, Tryz.ntmps45
  go_wp2_with (first
   | (refine wpList_box_h rfl 48 (.tmp 0) rfl #[.int .i64 x.c.n.u, .int .i64 x.c.n.m, .int .i64 x.c.n.i, .int .i64 x.c.n.f, .int .i64 x.c.n.c, .int .i64 x.c.n.s, .int .i64 x.c.n.y, .bool x.c.n.a, .int .i64 x.c.ad, .int .i64 x.c.st, .int .i64 x.c.lf, .slice a1 x.c.tk.length c1, .slice a2 x.q.length c2, .slice a3 x.t.length c3, .slice a4 x.d.length c4, .slice a5 x.g.length c5, .int .i64 x.s] rfl ?_; intro w1 R1 e1 g1 b1; have HL1 := Lib.hid (show Lg w w1 [(R1, (qH0 x a1 x.c.tk.length c1 a2 x.q.length c2 a3 x.t.length c3 a4 x.d.length c4 a5 x.g.length c5 x.s), 48)] [] from (Lg.first w).box e1 g1 b1); clear g1 b1 e1))
  go_ret
  exact ⟨rfl, HL1.out.below⟩
 have hd : decide (400 < (N : Int)) = false := decide_eq_false (by omega)
 rcases hb : ndB x with _ | _
 ·have ho : O = 1 := by rw [HO.out, hN, if_neg h4, hb]; rfl
  rw [ho]
  rw [hb] at HR
  clear HO ho hok hs hl hlen h hb hc4
  rw [hN]
  clear hN
  unfold ndV at *
  go_enter Tryz.func45, Tryz.ntmps45
  go_wp2_with (first
   | (refine wpList_box_h rfl 48 (.tmp 0) rfl #[.int .i64 x.c.n.u, .int .i64 x.c.n.m, .int .i64 x.c.n.i, .int .i64 x.c.n.f, .int .i64 x.c.n.c, .int .i64 x.c.n.s, .int .i64 x.c.n.y, .bool x.c.n.a, .int .i64 x.c.ad, .int .i64 x.c.st, .int .i64 x.c.lf, .slice a1 x.c.tk.length c1, .slice a2 x.q.length c2, .slice a3 x.t.length c3, .slice a4 x.d.length c4, .slice a5 x.g.length c5, .int .i64 x.s] rfl ?_; intro w1 R1 e1 g1 b1; have HL1 := Lib.hid (show Lg w w1 [(R1, (qH0 x a1 x.c.tk.length c1 a2 x.q.length c2 a3 x.t.length c3 a4 x.d.length c4 a5 x.g.length c5 x.s), 48)] [] from (Lg.first w).box e1 g1 b1); clear g1 b1 e1)
   | (refine wpList_load_at (by kernel_rfl) 48 (.tmp 3) rfl (R1) 0 rfl 48 (qH0 x a1 x.c.tk.length c1 a2 x.q.length c2 a3 x.t.length c3 a4 x.d.length c4 a5 x.g.length c5 x.s) (0, 0) (HL1.out.get (.head _)) [.int .i64 x.c.n.u, .int .i64 x.c.n.m, .int .i64 x.c.n.i, .int .i64 x.c.n.f, .int .i64 x.c.n.c, .int .i64 x.c.n.s, .int .i64 x.c.n.y, .bool x.c.n.a, .int .i64 x.c.ad, .int .i64 x.c.st, .int .i64 x.c.lf, .slice a1 x.c.tk.length c1, .slice a2 x.q.length c2, .slice a3 x.t.length c3, .slice a4 x.d.length c4, .slice a5 x.g.length c5, .int .i64 x.s] rfl _ Tryz.underlying48 rfl (by kernel_rfl) ?_))
  refine ((HR _ (HI.out.kept HL1.out.below)).out).mono ?_
  rintro e w2 ⟨rfl, h⟩
  have HL2 := Lib.hid (show Lg w w2 [(R1, (qH0 x a1 x.c.tk.length c1 a2 x.q.length c2 a3 x.t.length c3 a4 x.d.length c4 a5 x.g.length c5 x.s), 48)] [] from HL1.out.kept h)
  clear h
  go_wp2_with fail
  go_ret
  exact ⟨rfl, HL2.out.below⟩
 rcases hv : vrB p l with _ | _
 ·have ho : O = 1 := by rw [HO.out, hN, if_neg h4, hb, hv]; rfl
  rw [ho]
  rw [hb] at HR
  rw [hv] at HV
  clear HO ho hok hs hl hlen h hb hv hc4
  rw [hN] at HV ⊢
  clear hN
  unfold ndV at *
  go_enter Tryz.func45, Tryz.ntmps45
  go_wp2_with (first
   | (refine wpList_box_h rfl 48 (.tmp 0) rfl #[.int .i64 x.c.n.u, .int .i64 x.c.n.m, .int .i64 x.c.n.i, .int .i64 x.c.n.f, .int .i64 x.c.n.c, .int .i64 x.c.n.s, .int .i64 x.c.n.y, .bool x.c.n.a, .int .i64 x.c.ad, .int .i64 x.c.st, .int .i64 x.c.lf, .slice a1 x.c.tk.length c1, .slice a2 x.q.length c2, .slice a3 x.t.length c3, .slice a4 x.d.length c4, .slice a5 x.g.length c5, .int .i64 x.s] rfl ?_; intro w1 R1 e1 g1 b1; have HL1 := Lib.hid (show Lg w w1 [(R1, (qH0 x a1 x.c.tk.length c1 a2 x.q.length c2 a3 x.t.length c3 a4 x.d.length c4 a5 x.g.length c5 x.s), 48)] [] from (Lg.first w).box e1 g1 b1); clear g1 b1 e1)
   | (refine wpList_load_at (by kernel_rfl) 48 (.tmp 3) rfl (R1) 0 rfl 48 (qH0 x a1 x.c.tk.length c1 a2 x.q.length c2 a3 x.t.length c3 a4 x.d.length c4 a5 x.g.length c5 x.s) (0, 0) (HL1.out.get (.head _)) [.int .i64 x.c.n.u, .int .i64 x.c.n.m, .int .i64 x.c.n.i, .int .i64 x.c.n.f, .int .i64 x.c.n.c, .int .i64 x.c.n.s, .int .i64 x.c.n.y, .bool x.c.n.a, .int .i64 x.c.ad, .int .i64 x.c.st, .int .i64 x.c.lf, .slice a1 x.c.tk.length c1, .slice a2 x.q.length c2, .slice a3 x.t.length c3, .slice a4 x.d.length c4, .slice a5 x.g.length c5, .int .i64 x.s] rfl _ Tryz.underlying48 rfl (by kernel_rfl) ?_))
  refine ((HR _ (HI.out.kept HL1.out.below)).out).mono ?_
  rintro e w2 ⟨rfl, h⟩
  have HL2 := Lib.hid (show Lg w w2 [(R1, (qH0 x a1 x.c.tk.length c1 a2 x.q.length c2 a3 x.t.length c3 a4 x.d.length c4 a5 x.g.length c5 x.s), 48)] [] from HL1.out.kept h)
  clear h
  go_wp2_with fail
  refine ((HV _ (HL.out.kept HL2.out.below)).out).mono ?_
  rintro e w3 ⟨rfl, h⟩
  have HL3 := Lib.hid (show Lg w w3 [(R1, (qH0 x a1 x.c.tk.length c1 a2 x.q.length c2 a3 x.t.length c3 a4 x.d.length c4 a5 x.g.length c5 x.s), 48)] [] from HL2.out.kept h)
  clear h
  go_wp2_with fail
  go_ret
  exact ⟨rfl, HL3.out.below⟩
 ·have ho : O = 0 := by rw [HO.out, hN, if_neg h4, hb, hv]; rfl
  rw [ho]
  rw [hb] at HR
  rw [hv] at HV
  clear HO ho hok hs hl hlen h hb hv hc4
  rw [hN] at HV ⊢
  clear hN
  unfold ndV at *
  go_enter Tryz.func45, Tryz.ntmps45
  go_wp2_with (first
   | (refine wpList_box_h rfl 48 (.tmp 0) rfl #[.int .i64 x.c.n.u, .int .i64 x.c.n.m, .int .i64 x.c.n.i, .int .i64 x.c.n.f, .int .i64 x.c.n.c, .int .i64 x.c.n.s, .int .i64 x.c.n.y, .bool x.c.n.a, .int .i64 x.c.ad, .int .i64 x.c.st, .int .i64 x.c.lf, .slice a1 x.c.tk.length c1, .slice a2 x.q.length c2, .slice a3 x.t.length c3, .slice a4 x.d.length c4, .slice a5 x.g.length c5, .int .i64 x.s] rfl ?_; intro w1 R1 e1 g1 b1; have HL1 := Lib.hid (show Lg w w1 [(R1, (qH0 x a1 x.c.tk.length c1 a2 x.q.length c2 a3 x.t.length c3 a4 x.d.length c4 a5 x.g.length c5 x.s), 48)] [] from (Lg.first w).box e1 g1 b1); clear g1 b1 e1)
   | (refine wpList_load_at (by kernel_rfl) 48 (.tmp 3) rfl (R1) 0 rfl 48 (qH0 x a1 x.c.tk.length c1 a2 x.q.length c2 a3 x.t.length c3 a4 x.d.length c4 a5 x.g.length c5 x.s) (0, 0) (HL1.out.get (.head _)) [.int .i64 x.c.n.u, .int .i64 x.c.n.m, .int .i64 x.c.n.i, .int .i64 x.c.n.f, .int .i64 x.c.n.c, .int .i64 x.c.n.s, .int .i64 x.c.n.y, .bool x.c.n.a, .int .i64 x.c.ad, .int .i64 x.c.st, .int .i64 x.c.lf, .slice a1 x.c.tk.length c1, .slice a2 x.q.length c2, .slice a3 x.t.length c3, .slice a4 x.d.length c4, .slice a5 x.g.length c5, .int .i64 x.s] rfl _ Tryz.underlying48 rfl (by kernel_rfl) ?_))
  refine ((HR _ (HI.out.kept HL1.out.below)).out).mono ?_
  rintro e w2 ⟨rfl, h⟩
  have HL2 := Lib.hid (show Lg w w2 [(R1, (qH0 x a1 x.c.tk.length c1 a2 x.q.length c2 a3 x.t.length c3 a4 x.d.length c4 a5 x.g.length c5 x.s), 48)] [] from HL1.out.kept h)
  clear h
  go_wp2_with fail
  refine ((HV _ (HL.out.kept HL2.out.below)).out).mono ?_
  rintro e w3 ⟨rfl, h⟩
  have HL3 := Lib.hid (show Lg w w3 [(R1, (qH0 x a1 x.c.tk.length c1 a2 x.q.length c2 a3 x.t.length c3 a4 x.d.length c4 a5 x.g.length c5 x.s), 48)] [] from HL2.out.kept h)
  clear h
  go_wp2_with fail
  go_ret
  exact ⟨rfl, HL3.out.below⟩
set_option maxRecDepth 100000 in
set_option maxHeartbeats 32000000 in
theorem toAll_any (x : Nd) (a1 : Option Addr) (c1 : Nat) (DP DS DR : Int) (fa : Option Addr) (FN : Nat) (s : ByteArray) (w : World) :
  Calls Tryz.prog 100 #[.agg #[.int .i64 x.c.n.u, .int .i64 x.c.n.m, .int .i64 x.c.n.i, .int .i64 x.c.n.f, .int .i64 x.c.n.c, .int .i64 x.c.n.s, .int .i64 x.c.n.y, .bool x.c.n.a, .int .i64 x.c.ad, .int .i64 x.c.st, .int .i64 x.c.lf, .slice a1 x.c.tk.length c1], .agg #[.int .i64 DP, .int .i64 DS, .int .i64 DR, .slice fa FN FN], .string s] w fun e w' => e = .returned (.agg #[.int .i64 (idN DR DP 255 x.c.ad), .string s]) ∧ Below w.heap.size w w' := by
 have HN := fun W => Lib.hid (implIdNum_any DR DP 255 x.c.ad W)
 unfold idV at HN
 generalize idN DR DP 255 x.c.ad = m at *
 go_enter Tryz.func100, Tryz.ntmps100
 go_wp2_with (first
  | (refine wpList_box_h rfl 40 (.tmp 0) rfl #[.int .i64 x.c.n.u, .int .i64 x.c.n.m, .int .i64 x.c.n.i, .int .i64 x.c.n.f, .int .i64 x.c.n.c, .int .i64 x.c.n.s, .int .i64 x.c.n.y, .bool x.c.n.a, .int .i64 x.c.ad, .int .i64 x.c.st, .int .i64 x.c.lf, .slice a1 x.c.tk.length c1] rfl ?_; intro w1 R1 e1 g1 b1; have HL1 := Lib.hid (show Lg w w1 [(R1, (qH2 x a1 x.c.tk.length c1), 40)] [] from (Lg.first w).box e1 g1 b1); clear g1 b1 e1)
  | (refine wpList_box_h rfl 81 (.tmp 1) rfl #[.int .i64 DP, .int .i64 DS, .int .i64 DR, .slice fa FN FN] rfl ?_; intro w2 R2 e2 g2 b2; have qR2_R1 : R1 < R2 := Nat.lt_of_lt_of_eq (HL1.out.lt (.head _)) e2; have HL2 := Lib.hid (show Lg w w2 [(R2, #[.int .i64 DP, .int .i64 DS, .int .i64 DR, .slice fa FN FN], 81), (R1, (qH2 x a1 x.c.tk.length c1), 40)] [] from HL1.out.box e2 g2 b2); clear g2 b2 e2)
  | (refine wpList_alloc_h rfl 66 rfl (.agg #[.int .i64 0, .string ByteArray.empty]) (by kernel_rfl) #[.int .i64 0, .string ByteArray.empty] rfl ?_; intro w3 R3 e3 g3 b3; have qR3_R2 : R2 < R3 := Nat.lt_of_lt_of_eq (HL2.out.lt (.head _)) e3; have qR3_R1 : R1 < R3 := Nat.lt_of_lt_of_eq (HL2.out.lt qHm1) e3; have HL3 := Lib.hid (show Lg w w3 [(R3, #[.int .i64 0, .string ByteArray.empty], 66), (R2, #[.int .i64 DP, .int .i64 DS, .int .i64 DR, .slice fa FN FN], 81), (R1, (qH2 x a1 x.c.tk.length c1), 40)] [] from HL2.out.box e3 g3 b3); clear g3 b3 e3)
  | (refine wpList_load_one rfl 2 (.tmp 8) rfl (R2) 2 rfl 81 #[.int .i64 DP, .int .i64 DS, .int .i64 DR, .slice fa FN FN] (0, 0) (HL3.out.get qHm1) (.int .i64 DR) rfl _ Tryz.underlying2 rfl (by kernel_rfl) ?_)
  | (refine wpList_load_one rfl 2 (.tmp 10) rfl (R2) 0 rfl 81 #[.int .i64 DP, .int .i64 DS, .int .i64 DR, .slice fa FN FN] (0, 0) (HL3.out.get qHm1) (.int .i64 DP) rfl _ Tryz.underlying2 rfl (by kernel_rfl) ?_)
  | (refine wpList_load_one rfl 2 (.tmp 12) rfl (R1) 8 rfl 40 (qH2 x a1 x.c.tk.length c1) (0, 0) (HL3.out.get qHm2) (.int .i64 x.c.ad) rfl _ Tryz.underlying2 rfl (by kernel_rfl) ?_)
  | (refine wpList_alloc_h rfl 85 rfl (.agg #[.int .i64 0, .int .i64 0, .int .i64 0, .int .i64 0]) (by kernel_rfl) #[.int .i64 0, .int .i64 0, .int .i64 0, .int .i64 0] rfl ?_; intro w4 R4 e4 g4 b4; have qR4_R3 : R3 < R4 := Nat.lt_of_lt_of_eq (HL3.out.lt (.head _)) e4; have qR4_R2 : R2 < R4 := Nat.lt_of_lt_of_eq (HL3.out.lt qHm1) e4; have qR4_R1 : R1 < R4 := Nat.lt_of_lt_of_eq (HL3.out.lt qHm2) e4; have HL4 := Lib.hid (show Lg w w4 [(R4, #[.int .i64 0, .int .i64 0, .int .i64 0, .int .i64 0], 85), (R3, #[.int .i64 0, .string ByteArray.empty], 66), (R2, #[.int .i64 DP, .int .i64 DS, .int .i64 DR, .slice fa FN FN], 81), (R1, (qH2 x a1 x.c.tk.length c1), 40)] [] from HL3.out.box e4 g4 b4); clear g4 b4 e4)
  | (refine wpList_put_at rfl 85 (.tmp 7) (.tmp 14) rfl rfl (R4) 0 rfl _ rfl #[.int .i64 DR, .int .i64 DP, .int .i64 255, .int .i64 x.c.ad] rfl 85 #[.int .i64 0, .int .i64 0, .int .i64 0, .int .i64 0] #[.int .i64 DR, .int .i64 DP, .int .i64 255, .int .i64 x.c.ad] (HL4.out.get (.head _)) (by kernel_rfl) (by kernel_rfl) (by kernel_rfl) (by kernel_rfl) ?_; intro w5 g5 o5; have HL5 := Lib.hid (show Lg w w5 [(R4, #[.int .i64 DR, .int .i64 DP, .int .i64 255, .int .i64 x.c.ad], 85), (R3, #[.int .i64 0, .string ByteArray.empty], 66), (R2, #[.int .i64 DP, .int .i64 DS, .int .i64 DR, .slice fa FN FN], 81), (R1, (qH2 x a1 x.c.tk.length c1), 40)] [] from HL4.out.put 0 rfl g5 o5 (qHf ⟨Nat.ne_of_lt qR4_R3, (qHf ⟨Nat.ne_of_lt qR4_R2, (qHf ⟨Nat.ne_of_lt qR4_R1, (fun _ h => nomatch h)⟩)⟩)⟩) (fun _ h => nomatch h) rfl); clear g5 o5)
  | (refine wpList_load_at rfl 85 (.tmp 7) rfl (R4) 0 rfl 85 #[.int .i64 DR, .int .i64 DP, .int .i64 255, .int .i64 x.c.ad] (0, 0) (HL5.out.get (.head _)) [.int .i64 DR, .int .i64 DP, .int .i64 255, .int .i64 x.c.ad] rfl _ Tryz.underlying85 rfl (by kernel_rfl) ?_))
 refine ((HN _).out).mono ?_
 rintro e w6 ⟨rfl, h⟩
 have HL6 := Lib.hid (show Lg w w6 [(R4, #[.int .i64 DR, .int .i64 DP, .int .i64 255, .int .i64 x.c.ad], 85), (R3, #[.int .i64 0, .string ByteArray.empty], 66), (R2, #[.int .i64 DP, .int .i64 DS, .int .i64 DR, .slice fa FN FN], 81), (R1, (qH2 x a1 x.c.tk.length c1), 40)] [] from HL5.out.kept h)
 clear h
 go_wp2_with (first
  | (refine wpList_put_at rfl 66 (.tmp 6) (.tmp 18) rfl rfl (R3) 0 rfl (.agg #[.int .i64 m, .string s]) rfl #[.int .i64 m, .string s] rfl 66 #[.int .i64 0, .string ByteArray.empty] #[.int .i64 m, .string s] (HL6.out.get qHm1) (by kernel_rfl) (by kernel_rfl) (by kernel_rfl) (by kernel_rfl) ?_; intro w7 g7 o7; have HL7 := Lib.hid (show Lg w w7 [(R4, #[.int .i64 DR, .int .i64 DP, .int .i64 255, .int .i64 x.c.ad], 85), (R3, #[.int .i64 m, .string s], 66), (R2, #[.int .i64 DP, .int .i64 DS, .int .i64 DR, .slice fa FN FN], 81), (R1, (qH2 x a1 x.c.tk.length c1), 40)] [] from HL6.out.put 1 rfl g7 o7 (qHf ⟨Nat.ne_of_gt qR4_R3, (qHf ⟨Nat.ne_of_lt qR3_R2, (qHf ⟨Nat.ne_of_lt qR3_R1, (fun _ h => nomatch h)⟩)⟩)⟩) (fun _ h => nomatch h) rfl); clear g7 o7))
 exact bodyPost_ret (results_cell_row (p := 6) (ty := 66) (by kernel_rfl) _ _ (R3) 66 _ (0, 0) _ rfl (HL7.out.get qHm1) Tryz.underlying66 rfl (by kernel_rfl)) rfl ⟨rfl, HL7.out.below⟩
def RF (R2 : Nat) (bf : Obj) (W W' : World) : Prop := Out R2 (R2 + 1) W W' ∧ (W'.heap[R2]? = W.heap[R2]? ∨ W'.heap[R2]? = some bf)
structure CF (w : World) (R2 : Nat) (bz bf : Obj) (W : World) : Prop where
 out : Out R2 (R2 + 1) w W
 res : W.heap[R2]? = some bz ∨ W.heap[R2]? = some bf
section
variable {w W W' : World} {R2 : Nat} {bz bf : Obj}
theorem RF.refl : RF R2 bf W W := ⟨Out.refl _ _ _, .inl rfl⟩
theorem RF.fin (h : RF R2 bf W W') (k : W.heap[R2]? = some bf) : W'.heap[R2]? = some bf := h.2.elim (fun q => q.trans k) id
theorem CF.lt (h : CF w R2 bz bf W) : R2 < W.heap.size := h.res.elim (fun q => (Array.getElem?_eq_some_iff.1 q).1) (fun q => (Array.getElem?_eq_some_iff.1 q).1)
theorem CF.rs (h : CF w R2 bz bf W) (hb : Below W.heap.size W W') : RF R2 bf W W' := ⟨Out.of_below hb, .inl (hb.block _ h.lt)⟩
theorem CF.go (h : CF w R2 bz bf W) (hb : Below W.heap.size W W') : CF w R2 bz bf W' :=
 ⟨h.out.trans (Out.of_below hb), h.res.imp (fun q => (hb.block _ h.lt).trans q) (fun q => (hb.block _ h.lt).trans q)⟩
end
def G1 (lo : Nat) (T : ByteArray) (W : World) (G : Nat) : Prop := lo ≤ G ∧ W.heap[G]? = some (.cells #[.string T] 9 (0, 0))
theorem G1.out {lo R2 G : Nat} {T : ByteArray} {W W' : World} (h : G1 lo T W G) (ho : Out R2 (R2 + 1) W W') (hlt : R2 < lo) : G1 lo T W' G := ⟨h.1, (ho.block G (Array.getElem?_eq_some_iff.1 h.2).1 (.inr (by have := h.1; omega))).trans h.2⟩
def TF1 (R2 lo : Nat) (bf : Obj) (V : Value) (T : ByteArray) : Nat → World → Value → Prop
 | 0, _, v => v = .string T
 | 1, W, v => ∃ G, v = .slice (some ⟨G, 0, none⟩) 1 1 ∧ G1 lo T W G
 | 2, _, v => v = V
 | 3, W, v => ∃ G, v = .slice (some ⟨G, 0, none⟩) 1 1 ∧ G1 lo T W G
 | 4, W, _ => W.heap[R2]? = some bf
 | _ + 5, _, _ => True
theorem TF1.kept {R2 lo : Nat} {bf : Obj} {V : Value} {T : ByteArray} (hlt : R2 < lo) : ∀ j w w' v, RF R2 bf w w' → TF1 R2 lo bf V T j w v → TF1 R2 lo bf V T j w' v
 | 0, _, _, _, _, h | 2, _, _, _, _, h => h
 | 1, _, _, _, hR, ⟨G, h1, h2⟩ | 3, _, _, _, hR, ⟨G, h1, h2⟩ => ⟨G, h1, h2.out hR.1 hlt⟩
 | 4, _, _, _, hR, h => hR.fin h
 | _ + 5, _, _, _, _, h => h
def TF2 (R2 : Nat) (bf : Obj) (V F : Value) : Nat → World → Value → Prop
 | 0, _, v => v = F
 | 1, _, v => v = V
 | 2, _, v => v = F
 | 3, W, _ => W.heap[R2]? = some bf
 | _ + 4, _, _ => True
theorem TF2.kept {R2 : Nat} {bf : Obj} {V F : Value} : ∀ j w w' v, RF R2 bf w w' → TF2 R2 bf V F j w v → TF2 R2 bf V F j w' v
 | 0, _, _, _, _, h | 1, _, _, _, _, h | 2, _, _, _, _, h => h
 | 3, _, _, _, hR, h => hR.fin h
 | _ + 4, _, _, _, _, h => h
theorem sub17 {V : Array Value} {l : List Value} (h : l.toArray = V) : ∀ (j : Nat) (v : Value), l[j]? = some v → V[0 + j]? = some v := by
 intro j v hv
 subst h
 rw [Nat.zero_add]
 simpa using hv
set_option maxRecDepth 100000 in
set_option maxHeartbeats 32000000 in
theorem frames_any (x : Nd) (a1 a2 a3 a4 a5 : Option Addr) (c1 c2 c3 c4 c5 : Nat) (T : ByteArray) (w : World) (h0 : 1 ≤ T.size) (h1 : T.size ≤ 43) (hq : 0 ≤ x.s ∧ x.s ≤ 7) :
  Calls Tryz.prog 99 #[.agg #[.int .i64 x.c.n.u, .int .i64 x.c.n.m, .int .i64 x.c.n.i, .int .i64 x.c.n.f, .int .i64 x.c.n.c, .int .i64 x.c.n.s, .int .i64 x.c.n.y, .bool x.c.n.a, .int .i64 x.c.ad, .int .i64 x.c.st, .int .i64 x.c.lf, .slice a1 x.c.tk.length c1, .slice a2 x.q.length c2, .slice a3 x.t.length c3, .slice a4 x.d.length c4, .slice a5 x.g.length c5, .int .i64 x.s], .string T] w fun e w' => ∃ (a : Option Addr) (d : Nat), e = .returned (.tuple #[.slice a (sndF x.s T).length d, .agg #[.int .i64 x.c.n.u, .int .i64 x.c.n.m, .int .i64 x.c.n.i, .int .i64 x.c.n.f, .int .i64 x.c.n.c, .int .i64 x.c.n.s, .int .i64 x.c.n.y, .bool x.c.n.a, .int .i64 x.c.ad, .int .i64 x.c.st, .int .i64 x.c.lf, .slice a1 x.c.tk.length c1, .slice a2 x.q.length c2, .slice a3 x.t.length c3, .slice a4 x.d.length c4, .slice a5 x.g.length c5, .int .i64 (sndS x.s T)]]) ∧ RsNew strL 1 9 w.heap.size w'.heap.size w' a (sndF x.s T) ∧ Below w.heap.size w w' := by
 rcases Nat.lt_or_ge 8 T.size with h8 | h8
 ·skip
  have hd : decide ((T.size : Int) ≤ 8) = false := decide_eq_false (by omega)
  have hF : sndF x.s T = pieces x.s T (1 + T.size / 7) := if_neg (by omega)
  have hS : sndS x.s T = (x.s + 1) % 8 := if_neg (by omega)
  rw [hF, hS]
  have hcut : cutL x.s T = pieces x.s T (1 + T.size / 7) := by
   unfold cutL
   refine if_pos ?_
   unfold cutB
   rw [inB_yes hq.1 hq.2]
   simp
   omega
  have HCt := fun W => Lib.hid (implCut_any x.s T W (by unfold maxLen; omega))
  rw [hcut] at HCt
  unfold StrsOut at HCt
  rw [pieces_length] at HCt ⊢
  have hwr : IntKind.i64.wrap (x.s + 1) = x.s + 1 := IntWalk.i64_in _ (by omega)
  have hsq : 0 ≤ x.s + 1 ∧ x.s + 1 ≤ 8 := by omega
  obtain ⟨n, hn⟩ : ∃ n, 1 + T.size / 7 = n := ⟨_, rfl⟩
  rw [hn] at HCt ⊢
  clear hn hcut
  obtain ⟨F, hFF⟩ : ∃ F, pieces x.s T n = F := ⟨_, rfl⟩
  rw [hFF] at HCt ⊢
  clear hFF
  clear hF hS h0 h1 h8 hq
  go_enter Tryz.func99, Tryz.ntmps99
  go_wp2_with (first
   | (refine wpList_box_h rfl 104 (.tmp 0) rfl #[.int .i64 x.c.n.u, .int .i64 x.c.n.m, .int .i64 x.c.n.i, .int .i64 x.c.n.f, .int .i64 x.c.n.c, .int .i64 x.c.n.s, .int .i64 x.c.n.y, .bool x.c.n.a, .int .i64 x.c.ad, .int .i64 x.c.st, .int .i64 x.c.lf, .slice a1 x.c.tk.length c1, .slice a2 x.q.length c2, .slice a3 x.t.length c3, .slice a4 x.d.length c4, .slice a5 x.g.length c5, .int .i64 x.s] rfl ?_; intro w1 R1 e1 g1 b1; have HL1 := Lib.hid (show Lg w w1 [(R1, (qH0 x a1 x.c.tk.length c1 a2 x.q.length c2 a3 x.t.length c3 a4 x.d.length c4 a5 x.g.length c5 x.s), 104)] [] from (Lg.first w).box e1 g1 b1); clear g1 b1 e1)
   | (refine wpList_alloc_h rfl 104 rfl (.agg #[.int .i64 0, .int .i64 0, .int .i64 0, .int .i64 0, .int .i64 0, .int .i64 0, .int .i64 0, .bool false, .int .i64 0, .int .i64 0, .int .i64 0, .slice none 0 0, .slice none 0 0, .slice none 0 0, .slice none 0 0, .slice none 0 0, .int .i64 0]) (by kernel_rfl) #[.int .i64 0, .int .i64 0, .int .i64 0, .int .i64 0, .int .i64 0, .int .i64 0, .int .i64 0, .bool false, .int .i64 0, .int .i64 0, .int .i64 0, .slice none 0 0, .slice none 0 0, .slice none 0 0, .slice none 0 0, .slice none 0 0, .int .i64 0] rfl ?_; intro w2 R2 e2 g2 b2; have qR2_R1 : R1 < R2 := Nat.lt_of_lt_of_eq (HL1.out.lt (.head _)) e2; have HL2 := Lib.hid (show Lg w w2 [(R2, (qH1), 104), (R1, (qH0 x a1 x.c.tk.length c1 a2 x.q.length c2 a3 x.t.length c3 a4 x.d.length c4 a5 x.g.length c5 x.s), 104)] [] from HL1.out.box e2 g2 b2); clear g2 b2 e2)
   | (refine wpList_load_one rfl 2 (.tmp 13) rfl (R1) 16 rfl 104 (qH0 x a1 x.c.tk.length c1 a2 x.q.length c2 a3 x.t.length c3 a4 x.d.length c4 a5 x.g.length c5 x.s) (0, 0) (HL2.out.get qHm1) (.int .i64 x.s) rfl _ Tryz.underlying2 rfl (by kernel_rfl) ?_))
  refine ((HCt _).out).mono ?_
  rintro e w3 ⟨fz, fc, rfl, hn, h⟩
  obtain ⟨L3, e3⟩ : ∃ x, w2.heap.size = x := ⟨_, rfl⟩
  obtain ⟨H3, f3⟩ : ∃ x, w3.heap.size = x := ⟨_, rfl⟩
  have qL3_R2 : R2 < L3 := Nat.lt_of_lt_of_eq (HL2.out.lt (.head _)) e3
  have qL3_R1 : R1 < L3 := Nat.lt_of_lt_of_eq (HL2.out.lt qHm1) e3
  have qH3_L3 : L3 ≤ H3 := (by rw [← e3, ← f3]; exact h.size)
  have HL3 := Lib.hid (show Lg w w3 [(R2, (qH1), 104), (R1, (qH0 x a1 x.c.tk.length c1 a2 x.q.length c2 a3 x.t.length c3 a4 x.d.length c4 a5 x.g.length c5 x.s), 104)] [(L3, H3, (fun W => RsNew strL 1 9 L3 H3 W fz F))] from HL2.out.made e3 f3 h (by rw [← e3, ← f3]; exact hn.solid))
  clear h hn e3 f3
  go_wp2_with (first
   | (refine wpList_load_one rfl 2 (.tmp 17) rfl (R1) 16 rfl 104 (qH0 x a1 x.c.tk.length c1 a2 x.q.length c2 a3 x.t.length c3 a4 x.d.length c4 a5 x.g.length c5 x.s) (0, 0) (HL3.out.get qHm1) (.int .i64 x.s) rfl _ Tryz.underlying2 rfl (by kernel_rfl) ?_)
   | (refine wpList_put_at rfl 2 (.tmp 21) (.tmp 20) rfl rfl (R1) 16 rfl (.int .i64 ((x.s + 1) % 8)) rfl #[.int .i64 ((x.s + 1) % 8)] rfl 104 (qH0 x a1 x.c.tk.length c1 a2 x.q.length c2 a3 x.t.length c3 a4 x.d.length c4 a5 x.g.length c5 x.s) (qH0 x a1 x.c.tk.length c1 a2 x.q.length c2 a3 x.t.length c3 a4 x.d.length c4 a5 x.g.length c5 ((x.s + 1) % 8)) (HL3.out.get qHm1) (by kernel_rfl) (by kernel_rfl) (by kernel_rfl) (by kernel_rfl) ?_; intro w4 g4 o4; have HL4 := Lib.hid (show Lg w w4 [(R2, (qH1), 104), (R1, (qH0 x a1 x.c.tk.length c1 a2 x.q.length c2 a3 x.t.length c3 a4 x.d.length c4 a5 x.g.length c5 ((x.s + 1) % 8)), 104)] [(L3, H3, (fun W => RsNew strL 1 9 L3 H3 W fz F))] from HL3.out.put 1 rfl g4 o4 (qHf ⟨Nat.ne_of_gt qR2_R1, (fun _ h => nomatch h)⟩) (qHf ⟨.inr qL3_R1, (fun _ h => nomatch h)⟩) rfl); clear g4 o4))
  have HRb := Lib.hid (HL4.out.get qHm1)
  have HR2 := Lib.hid (HL4.out.get (.head _))
  have hRb : R1 < w4.heap.size := HL4.out.lt qHm1
  have hR2 : R2 < w4.heap.size := HL4.out.lt (.head _)
  have hR2w : w.heap.size ≤ R2 := HL4.out.ge (.head _)
  have hne : R1 < R2 := qR2_R1
  have HBb := Lib.hid HL4.out.below
  obtain ⟨bz, hbz⟩ : ∃ o : Obj, .cells #[.int .i64 0, .int .i64 0, .int .i64 0, .int .i64 0, .int .i64 0, .int .i64 0, .int .i64 0, .bool false, .int .i64 0, .int .i64 0, .int .i64 0, .slice none 0 0, .slice none 0 0, .slice none 0 0, .slice none 0 0, .slice none 0 0, .int .i64 0] 104 (0, 0) = o := ⟨_, rfl⟩
  obtain ⟨bf, hbf⟩ : ∃ o : Obj, .cells #[.int .i64 x.c.n.u, .int .i64 x.c.n.m, .int .i64 x.c.n.i, .int .i64 x.c.n.f, .int .i64 x.c.n.c, .int .i64 x.c.n.s, .int .i64 x.c.n.y, .bool x.c.n.a, .int .i64 x.c.ad, .int .i64 x.c.st, .int .i64 x.c.lf, .slice a1 x.c.tk.length c1, .slice a2 x.q.length c2, .slice a3 x.t.length c3, .slice a4 x.d.length c4, .slice a5 x.g.length c5, .int .i64 ((x.s + 1) % 8)] 104 (0, 0) = o := ⟨_, rfl⟩
  rw [hbz] at HR2
  have HRk := fun W (h : CF w4 R2 bz bf W) => Lib.hid ((h.out.block R1 hRb (.inl (by omega))).trans HRb.out)
  have HNf := Lib.hid (HL4.out.at (.head _))
  have HBz := Lib.hid hbz
  have HBf := Lib.hid hbf
  clear hbz hbf
  refine wp_region_anyord (CF w4 R2 bz bf) (RF R2 bf) (TF2 R2 bf (.agg #[.int .i64 x.c.n.u, .int .i64 x.c.n.m, .int .i64 x.c.n.i, .int .i64 x.c.n.f, .int .i64 x.c.n.c, .int .i64 x.c.n.s, .int .i64 x.c.n.y, .bool x.c.n.a, .int .i64 x.c.ad, .int .i64 x.c.st, .int .i64 x.c.lf, .slice a1 x.c.tk.length c1, .slice a2 x.q.length c2, .slice a3 x.t.length c3, .slice a4 x.d.length c4, .slice a5 x.g.length c5, .int .i64 ((x.s + 1) % 8)]) (.slice fz n fc)) (by kernel_rfl) (by kernel_rfl) (by kernel_rfl) TF2.kept ?_ ?_ ?_
  ·exact ⟨⟨rfl, rfl, rfl, Nat.le_refl _, fun _ _ _ => rfl⟩, .inl HR2.out⟩
  ·refine ⟨⟨rfl, fun a_ W hC hK => ?_⟩, ⟨rfl, fun a_ W hC hK => ?_⟩, ⟨rfl, fun a_ W hC hK => ?_⟩, ⟨rfl, fun a_ W hC hK => ?_⟩, trivial⟩
   ·have e1 : a_.eval (.tmp 6) = .slice fz n fc := (hK.old 6 (by kernel_rfl)).trans rfl
    simp only [Act.eval, Array.getD_eq_getD_getElem?] at e1
    exact ob_value (v := .slice fz n fc) (w' := W) (by simp [execOp, go_sem, e1]) ⟨_, rfl, hC, RF.refl, rfl⟩
   ·have e1 : a_.eval (.tmp 2) = .pointer (some ⟨R1, 0, none⟩) := (hK.old 2 (by kernel_rfl)).trans rfl
    exact wp_load_mid 104 (.tmp 2) rfl R1 0 e1 [.int .i64 x.c.n.u, .int .i64 x.c.n.m, .int .i64 x.c.n.i, .int .i64 x.c.n.f, .int .i64 x.c.n.c, .int .i64 x.c.n.s, .int .i64 x.c.n.y, .bool x.c.n.a, .int .i64 x.c.ad, .int .i64 x.c.st, .int .i64 x.c.lf, .slice a1 x.c.tk.length c1, .slice a2 x.q.length c2, .slice a3 x.t.length c3, .slice a4 x.d.length c4, .slice a5 x.g.length c5, .int .i64 ((x.s + 1) % 8)] _ (fun j v hv => (cell_of_row W R1 (0 + j) _ _ (0, 0) (HRk W hC).out).trans (sub17 rfl j v hv)) Tryz.underlying104 rfl (by kernel_rfl) ⟨_, rfl, hC, RF.refl, rfl⟩
   ·have e1 : a_.eval (.tmp 22) = .slice fz n fc := freeOf_get hK 0 22 (by kernel_rfl) rfl rfl rfl
    simp only [Act.eval, Array.getD_eq_getD_getElem?] at e1
    exact ob_value (v := .slice fz n fc) (w' := W) (by simp [execOp, go_sem, e1]) ⟨_, rfl, hC, RF.refl, rfl⟩
   ·have e1 : a_.eval (.tmp 23) = .agg #[.int .i64 x.c.n.u, .int .i64 x.c.n.m, .int .i64 x.c.n.i, .int .i64 x.c.n.f, .int .i64 x.c.n.c, .int .i64 x.c.n.s, .int .i64 x.c.n.y, .bool x.c.n.a, .int .i64 x.c.ad, .int .i64 x.c.st, .int .i64 x.c.lf, .slice a1 x.c.tk.length c1, .slice a2 x.q.length c2, .slice a3 x.t.length c3, .slice a4 x.d.length c4, .slice a5 x.g.length c5, .int .i64 ((x.s + 1) % 8)] := freeOf_get hK 1 23 (by kernel_rfl) rfl rfl rfl
    have e2 : a_.eval (.tmp 5) = .pointer (some ⟨R2, 0, none⟩) := (hK.old 5 (by kernel_rfl)).trans rfl
    have hfin : ∀ w', w'.heap[R2]? = some (.cells #[.int .i64 x.c.n.u, .int .i64 x.c.n.m, .int .i64 x.c.n.i, .int .i64 x.c.n.f, .int .i64 x.c.n.c, .int .i64 x.c.n.s, .int .i64 x.c.n.y, .bool x.c.n.a, .int .i64 x.c.ad, .int .i64 x.c.st, .int .i64 x.c.lf, .slice a1 x.c.tk.length c1, .slice a2 x.q.length c2, .slice a3 x.t.length c3, .slice a4 x.d.length c4, .slice a5 x.g.length c5, .int .i64 ((x.s + 1) % 8)] 104 (0, 0)) → Out R2 (R2 + 1) W w' → ∃ v, a_.put none undef = a_.put none v ∧ CF w4 R2 bz bf w' ∧ RF R2 bf W w' ∧ TF2 R2 bf (.agg #[.int .i64 x.c.n.u, .int .i64 x.c.n.m, .int .i64 x.c.n.i, .int .i64 x.c.n.f, .int .i64 x.c.n.c, .int .i64 x.c.n.s, .int .i64 x.c.n.y, .bool x.c.n.a, .int .i64 x.c.ad, .int .i64 x.c.st, .int .i64 x.c.lf, .slice a1 x.c.tk.length c1, .slice a2 x.q.length c2, .slice a3 x.t.length c3, .slice a4 x.d.length c4, .slice a5 x.g.length c5, .int .i64 ((x.s + 1) % 8)]) (.slice fz n fc) 3 w' v := fun w' hg' ho => by
     have hF : w'.heap[R2]? = some bf := hg'.trans (congrArg some HBf.out)
     exact ⟨undef, rfl, ⟨hC.out.trans ho, .inr hF⟩, ⟨ho, .inr hF⟩, hF⟩
    rcases hC.res with hq | hq
    ·exact ob_put_row 104 (.tmp 5) (.tmp 23) rfl R2 e2 _ e1 _ rfl 104 _ _ (hq.trans (congrArg some HBz.out.symm)) (by kernel_rfl) (by kernel_rfl) (by kernel_rfl) (by kernel_rfl) hfin
    ·exact ob_put_row 104 (.tmp 5) (.tmp 23) rfl R2 e2 _ e1 _ rfl 104 _ _ (hq.trans (congrArg some HBf.out.symm)) (by kernel_rfl) (by kernel_rfl) (by kernel_rfl) (by kernel_rfl) hfin
  ·intro vs W hC hT
   have hq : W.heap[R2]? = some bf := hT 3 (by decide)
   have e3 : vs 2 = .slice fz n fc := hT 2 (by decide)
   simp only [fillL, if_true, Act.put, List.setIfInBounds_toArray, List.set_cons_zero, List.set_cons_succ, e3]
   have HF := Lib.hid (hq.trans (congrArg some HBf.out.symm))
   have HBl := Lib.hid (hC.out.below HBb.out hR2w HBb.out.size)
   have HGo := Lib.hid ((HNf.out.out hC.out (.inr qL3_R2)).wide (HL4.out.lo (.head _)) (Nat.le_trans (HL4.out.hi (.head _)).2 hC.out.size))
   clear hC hT hq e3 HRk HR2 HRb
   go_wp2_with fail
   have cc0 := cell_of_row W R2 0 _ _ (0, 0) HF.out
   have cc1 := cell_of_row W R2 1 _ _ (0, 0) HF.out
   have cc2 := cell_of_row W R2 2 _ _ (0, 0) HF.out
   have cc3 := cell_of_row W R2 3 _ _ (0, 0) HF.out
   have cc4 := cell_of_row W R2 4 _ _ (0, 0) HF.out
   have cc5 := cell_of_row W R2 5 _ _ (0, 0) HF.out
   have cc6 := cell_of_row W R2 6 _ _ (0, 0) HF.out
   have cc7 := cell_of_row W R2 7 _ _ (0, 0) HF.out
   have cc8 := cell_of_row W R2 8 _ _ (0, 0) HF.out
   have cc9 := cell_of_row W R2 9 _ _ (0, 0) HF.out
   have cc10 := cell_of_row W R2 10 _ _ (0, 0) HF.out
   have cc11 := cell_of_row W R2 11 _ _ (0, 0) HF.out
   have cc12 := cell_of_row W R2 12 _ _ (0, 0) HF.out
   have cc13 := cell_of_row W R2 13 _ _ (0, 0) HF.out
   have cc14 := cell_of_row W R2 14 _ _ (0, 0) HF.out
   have cc15 := cell_of_row W R2 15 _ _ (0, 0) HF.out
   have cc16 := cell_of_row W R2 16 _ _ (0, 0) HF.out
   refine bodyPost_ret (v := .tuple #[(.slice fz n fc), .agg #[.int .i64 x.c.n.u, .int .i64 x.c.n.m, .int .i64 x.c.n.i, .int .i64 x.c.n.f, .int .i64 x.c.n.c, .int .i64 x.c.n.s, .int .i64 x.c.n.y, .bool x.c.n.a, .int .i64 x.c.ad, .int .i64 x.c.st, .int .i64 x.c.lf, .slice a1 x.c.tk.length c1, .slice a2 x.q.length c2, .slice a3 x.t.length c3, .slice a4 x.d.length c4, .slice a5 x.g.length c5, .int .i64 ((x.s + 1) % 8)]]) (by simp [results, Tryz.results99, go_sem, cc0, cc1, cc2, cc3, cc4, cc5, cc6, cc7, cc8, cc9, cc10, cc11, cc12, cc13, cc14, cc15, cc16]) rfl ⟨fz, fc, rfl, HGo.out, HBl.out⟩
 ·skip
  have hd : decide ((T.size : Int) ≤ 8) = true := decide_eq_true (by omega)
  have hF : sndF x.s T = [T] := if_pos h8
  have hS : sndS x.s T = x.s := if_pos h8
  rw [hF, hS]
  obtain ⟨j0, hj, hy0, hy1, hy2⟩ := info_parts Cut.info
  have HIs := Lib.hid (And.intro hj (And.intro hy0 (And.intro hy1 hy2)))
  clear hj hy0 hy1 hy2
  clear hF hS h0 h1 h8 hq
  go_enter Tryz.func99, Tryz.ntmps99
  go_wp2_with (first
   | (refine wpList_box_h rfl 104 (.tmp 0) rfl #[.int .i64 x.c.n.u, .int .i64 x.c.n.m, .int .i64 x.c.n.i, .int .i64 x.c.n.f, .int .i64 x.c.n.c, .int .i64 x.c.n.s, .int .i64 x.c.n.y, .bool x.c.n.a, .int .i64 x.c.ad, .int .i64 x.c.st, .int .i64 x.c.lf, .slice a1 x.c.tk.length c1, .slice a2 x.q.length c2, .slice a3 x.t.length c3, .slice a4 x.d.length c4, .slice a5 x.g.length c5, .int .i64 x.s] rfl ?_; intro w1 R1 e1 g1 b1; have HL1 := Lib.hid (show Lg w w1 [(R1, (qH0 x a1 x.c.tk.length c1 a2 x.q.length c2 a3 x.t.length c3 a4 x.d.length c4 a5 x.g.length c5 x.s), 104)] [] from (Lg.first w).box e1 g1 b1); clear g1 b1 e1)
   | (refine wpList_alloc_h rfl 104 rfl (.agg #[.int .i64 0, .int .i64 0, .int .i64 0, .int .i64 0, .int .i64 0, .int .i64 0, .int .i64 0, .bool false, .int .i64 0, .int .i64 0, .int .i64 0, .slice none 0 0, .slice none 0 0, .slice none 0 0, .slice none 0 0, .slice none 0 0, .int .i64 0]) (by kernel_rfl) #[.int .i64 0, .int .i64 0, .int .i64 0, .int .i64 0, .int .i64 0, .int .i64 0, .int .i64 0, .bool false, .int .i64 0, .int .i64 0, .int .i64 0, .slice none 0 0, .slice none 0 0, .slice none 0 0, .slice none 0 0, .slice none 0 0, .int .i64 0] rfl ?_; intro w2 R2 e2 g2 b2; have qR2_R1 : R1 < R2 := Nat.lt_of_lt_of_eq (HL1.out.lt (.head _)) e2; have HL2 := Lib.hid (show Lg w w2 [(R2, (qH1), 104), (R1, (qH0 x a1 x.c.tk.length c1 a2 x.q.length c2 a3 x.t.length c3 a4 x.d.length c4 a5 x.g.length c5 x.s), 104)] [] from HL1.out.box e2 g2 b2); clear g2 b2 e2))
  have HRb := Lib.hid (HL2.out.get qHm1)
  have HR2 := Lib.hid (HL2.out.get (.head _))
  have hRb : R1 < w2.heap.size := HL2.out.lt qHm1
  have hR2 : R2 < w2.heap.size := HL2.out.lt (.head _)
  have hR2w : w.heap.size ≤ R2 := HL2.out.ge (.head _)
  have hne : R1 < R2 := qR2_R1
  have HBb := Lib.hid HL2.out.below
  obtain ⟨bz, hbz⟩ : ∃ o : Obj, .cells #[.int .i64 0, .int .i64 0, .int .i64 0, .int .i64 0, .int .i64 0, .int .i64 0, .int .i64 0, .bool false, .int .i64 0, .int .i64 0, .int .i64 0, .slice none 0 0, .slice none 0 0, .slice none 0 0, .slice none 0 0, .slice none 0 0, .int .i64 0] 104 (0, 0) = o := ⟨_, rfl⟩
  obtain ⟨bf, hbf⟩ : ∃ o : Obj, .cells #[.int .i64 x.c.n.u, .int .i64 x.c.n.m, .int .i64 x.c.n.i, .int .i64 x.c.n.f, .int .i64 x.c.n.c, .int .i64 x.c.n.s, .int .i64 x.c.n.y, .bool x.c.n.a, .int .i64 x.c.ad, .int .i64 x.c.st, .int .i64 x.c.lf, .slice a1 x.c.tk.length c1, .slice a2 x.q.length c2, .slice a3 x.t.length c3, .slice a4 x.d.length c4, .slice a5 x.g.length c5, .int .i64 x.s] 104 (0, 0) = o := ⟨_, rfl⟩
  rw [hbz] at HR2
  have HRk := fun W (h : CF w2 R2 bz bf W) => Lib.hid ((h.out.block R1 hRb (.inl (by omega))).trans HRb.out)
  have HBz := Lib.hid hbz
  have HBf := Lib.hid hbf
  clear hbz hbf
  refine wp_region_anyord (CF w2 R2 bz bf) (RF R2 bf) (TF1 R2 w2.heap.size bf (.agg #[.int .i64 x.c.n.u, .int .i64 x.c.n.m, .int .i64 x.c.n.i, .int .i64 x.c.n.f, .int .i64 x.c.n.c, .int .i64 x.c.n.s, .int .i64 x.c.n.y, .bool x.c.n.a, .int .i64 x.c.ad, .int .i64 x.c.st, .int .i64 x.c.lf, .slice a1 x.c.tk.length c1, .slice a2 x.q.length c2, .slice a3 x.t.length c3, .slice a4 x.d.length c4, .slice a5 x.g.length c5, .int .i64 x.s]) T) (by kernel_rfl) (by kernel_rfl) (by kernel_rfl) (TF1.kept hR2) ?_ ?_ ?_
  ·exact ⟨⟨rfl, rfl, rfl, Nat.le_refl _, fun _ _ _ => rfl⟩, .inl HR2.out⟩
  ·refine ⟨⟨rfl, fun a_ W hC hK => ?_⟩, ⟨rfl, fun a_ W hC hK => ?_⟩, ⟨rfl, fun a_ W hC hK => ?_⟩, ⟨rfl, fun a_ W hC hK => ?_⟩, ⟨rfl, fun a_ W hC hK => ?_⟩, trivial⟩
   ·have e1 : a_.eval (.tmp 1) = .string T := (hK.old 1 (by kernel_rfl)).trans rfl
    simp only [Act.eval, Array.getD_eq_getD_getElem?] at e1
    exact ob_value (v := .string T) (w' := W) (by simp [execOp, go_sem, e1]) ⟨_, rfl, hC, RF.refl, rfl⟩
   ·have e1 : a_.eval (.tmp 10) = .string T := freeOf_get hK 0 10 (by kernel_rfl) rfl rfl rfl
    have hb : Below W.heap.size W (W.alloc (.cells #[.string T] 9 (0, 0))) := (Below.refl _ _).alloc (Nat.le_refl _) _
    exact ob_lit1_row 87 (.tmp 10) rfl 9 j0 Tryz.underlying87 HIs.out.1 _ HIs.out.2.1 HIs.out.2.2.1 [.string T] _ e1 rfl rfl (by rfl) (by decide) (by decide) ⟨_, rfl, hC.go hb, hC.rs hb, _, rfl, hC.out.size, heap_alloc_new W _⟩
   ·have e1 : a_.eval (.tmp 2) = .pointer (some ⟨R1, 0, none⟩) := (hK.old 2 (by kernel_rfl)).trans rfl
    exact wp_load_mid 104 (.tmp 2) rfl R1 0 e1 [.int .i64 x.c.n.u, .int .i64 x.c.n.m, .int .i64 x.c.n.i, .int .i64 x.c.n.f, .int .i64 x.c.n.c, .int .i64 x.c.n.s, .int .i64 x.c.n.y, .bool x.c.n.a, .int .i64 x.c.ad, .int .i64 x.c.st, .int .i64 x.c.lf, .slice a1 x.c.tk.length c1, .slice a2 x.q.length c2, .slice a3 x.t.length c3, .slice a4 x.d.length c4, .slice a5 x.g.length c5, .int .i64 x.s] _ (fun j v hv => (cell_of_row W R1 (0 + j) _ _ (0, 0) (HRk W hC).out).trans (sub17 rfl j v hv)) Tryz.underlying104 rfl (by kernel_rfl) ⟨_, rfl, hC, RF.refl, rfl⟩
   ·obtain ⟨G, e1, hg⟩ : TF1 R2 w2.heap.size bf (.agg #[.int .i64 x.c.n.u, .int .i64 x.c.n.m, .int .i64 x.c.n.i, .int .i64 x.c.n.f, .int .i64 x.c.n.c, .int .i64 x.c.n.s, .int .i64 x.c.n.y, .bool x.c.n.a, .int .i64 x.c.ad, .int .i64 x.c.st, .int .i64 x.c.lf, .slice a1 x.c.tk.length c1, .slice a2 x.q.length c2, .slice a3 x.t.length c3, .slice a4 x.d.length c4, .slice a5 x.g.length c5, .int .i64 x.s]) T 1 W (a_.eval (.tmp 11)) := freeOf_get hK 1 11 (by kernel_rfl) rfl rfl rfl
    simp only [Act.eval, Array.getD_eq_getD_getElem?] at e1
    exact ob_value (v := .slice (some ⟨G, 0, none⟩) 1 1) (w' := W) (by simp [execOp, go_sem, e1]) ⟨_, rfl, hC, RF.refl, G, rfl, hg⟩
   ·have e1 : a_.eval (.tmp 12) = .agg #[.int .i64 x.c.n.u, .int .i64 x.c.n.m, .int .i64 x.c.n.i, .int .i64 x.c.n.f, .int .i64 x.c.n.c, .int .i64 x.c.n.s, .int .i64 x.c.n.y, .bool x.c.n.a, .int .i64 x.c.ad, .int .i64 x.c.st, .int .i64 x.c.lf, .slice a1 x.c.tk.length c1, .slice a2 x.q.length c2, .slice a3 x.t.length c3, .slice a4 x.d.length c4, .slice a5 x.g.length c5, .int .i64 x.s] := freeOf_get hK 2 12 (by kernel_rfl) rfl rfl rfl
    have e2 : a_.eval (.tmp 5) = .pointer (some ⟨R2, 0, none⟩) := (hK.old 5 (by kernel_rfl)).trans rfl
    have hfin : ∀ w', w'.heap[R2]? = some (.cells #[.int .i64 x.c.n.u, .int .i64 x.c.n.m, .int .i64 x.c.n.i, .int .i64 x.c.n.f, .int .i64 x.c.n.c, .int .i64 x.c.n.s, .int .i64 x.c.n.y, .bool x.c.n.a, .int .i64 x.c.ad, .int .i64 x.c.st, .int .i64 x.c.lf, .slice a1 x.c.tk.length c1, .slice a2 x.q.length c2, .slice a3 x.t.length c3, .slice a4 x.d.length c4, .slice a5 x.g.length c5, .int .i64 x.s] 104 (0, 0)) → Out R2 (R2 + 1) W w' → ∃ v, a_.put none undef = a_.put none v ∧ CF w2 R2 bz bf w' ∧ RF R2 bf W w' ∧ TF1 R2 w2.heap.size bf (.agg #[.int .i64 x.c.n.u, .int .i64 x.c.n.m, .int .i64 x.c.n.i, .int .i64 x.c.n.f, .int .i64 x.c.n.c, .int .i64 x.c.n.s, .int .i64 x.c.n.y, .bool x.c.n.a, .int .i64 x.c.ad, .int .i64 x.c.st, .int .i64 x.c.lf, .slice a1 x.c.tk.length c1, .slice a2 x.q.length c2, .slice a3 x.t.length c3, .slice a4 x.d.length c4, .slice a5 x.g.length c5, .int .i64 x.s]) T 4 w' v := fun w' hg' ho => by
     have hF : w'.heap[R2]? = some bf := hg'.trans (congrArg some HBf.out)
     exact ⟨undef, rfl, ⟨hC.out.trans ho, .inr hF⟩, ⟨ho, .inr hF⟩, hF⟩
    rcases hC.res with hq | hq
    ·exact ob_put_row 104 (.tmp 5) (.tmp 12) rfl R2 e2 _ e1 _ rfl 104 _ _ (hq.trans (congrArg some HBz.out.symm)) (by kernel_rfl) (by kernel_rfl) (by kernel_rfl) (by kernel_rfl) hfin
    ·exact ob_put_row 104 (.tmp 5) (.tmp 12) rfl R2 e2 _ e1 _ rfl 104 _ _ (hq.trans (congrArg some HBf.out.symm)) (by kernel_rfl) (by kernel_rfl) (by kernel_rfl) (by kernel_rfl) hfin
  ·intro vs W hC hT
   have hq : W.heap[R2]? = some bf := hT 4 (by decide)
   obtain ⟨G, e3, hG⟩ : TF1 R2 w2.heap.size bf (.agg #[.int .i64 x.c.n.u, .int .i64 x.c.n.m, .int .i64 x.c.n.i, .int .i64 x.c.n.f, .int .i64 x.c.n.c, .int .i64 x.c.n.s, .int .i64 x.c.n.y, .bool x.c.n.a, .int .i64 x.c.ad, .int .i64 x.c.st, .int .i64 x.c.lf, .slice a1 x.c.tk.length c1, .slice a2 x.q.length c2, .slice a3 x.t.length c3, .slice a4 x.d.length c4, .slice a5 x.g.length c5, .int .i64 x.s]) T 3 W (vs 3) := hT 3 (by decide)
   simp only [fillL, if_true, Act.put, List.setIfInBounds_toArray, List.set_cons_zero, List.set_cons_succ, e3]
   have HF := Lib.hid (hq.trans (congrArg some HBf.out.symm))
   have HBl := Lib.hid (hC.out.below HBb.out hR2w HBb.out.size)
   have HGo := Lib.hid hG
   clear hC hT hq e3 hG HRk HR2 HRb
   go_wp2_with fail
   have cc0 := cell_of_row W R2 0 _ _ (0, 0) HF.out
   have cc1 := cell_of_row W R2 1 _ _ (0, 0) HF.out
   have cc2 := cell_of_row W R2 2 _ _ (0, 0) HF.out
   have cc3 := cell_of_row W R2 3 _ _ (0, 0) HF.out
   have cc4 := cell_of_row W R2 4 _ _ (0, 0) HF.out
   have cc5 := cell_of_row W R2 5 _ _ (0, 0) HF.out
   have cc6 := cell_of_row W R2 6 _ _ (0, 0) HF.out
   have cc7 := cell_of_row W R2 7 _ _ (0, 0) HF.out
   have cc8 := cell_of_row W R2 8 _ _ (0, 0) HF.out
   have cc9 := cell_of_row W R2 9 _ _ (0, 0) HF.out
   have cc10 := cell_of_row W R2 10 _ _ (0, 0) HF.out
   have cc11 := cell_of_row W R2 11 _ _ (0, 0) HF.out
   have cc12 := cell_of_row W R2 12 _ _ (0, 0) HF.out
   have cc13 := cell_of_row W R2 13 _ _ (0, 0) HF.out
   have cc14 := cell_of_row W R2 14 _ _ (0, 0) HF.out
   have cc15 := cell_of_row W R2 15 _ _ (0, 0) HF.out
   have cc16 := cell_of_row W R2 16 _ _ (0, 0) HF.out
   refine bodyPost_ret (v := .tuple #[(.slice (some ⟨G, 0, none⟩) 1 1), .agg #[.int .i64 x.c.n.u, .int .i64 x.c.n.m, .int .i64 x.c.n.i, .int .i64 x.c.n.f, .int .i64 x.c.n.c, .int .i64 x.c.n.s, .int .i64 x.c.n.y, .bool x.c.n.a, .int .i64 x.c.ad, .int .i64 x.c.st, .int .i64 x.c.lf, .slice a1 x.c.tk.length c1, .slice a2 x.q.length c2, .slice a3 x.t.length c3, .slice a4 x.d.length c4, .slice a5 x.g.length c5, .int .i64 x.s]]) (by simp [results, Tryz.results99, go_sem, cc0, cc1, cc2, cc3, cc4, cc5, cc6, cc7, cc8, cc9, cc10, cc11, cc12, cc13, cc14, cc15, cc16]) rfl ⟨some ⟨G, 0, none⟩, 1, rfl, .inr ⟨G, 0, _, rfl, Nat.le_trans HBb.out.size HGo.out.1, (Array.getElem?_eq_some_iff.1 HGo.out.2).1, HGo.out.2, by show 0 + 1 * 1 ≤ 1; decide, fun i y hy j v hv => ?_⟩, HBl.out⟩
   rcases i with _ | i
   ·simp at hy
    subst hy
    rcases j with _ | j
    ·exact hv
    ·simp [strL] at hv
   ·simp at hy
def sndG (x : Nd) (p : Int) (l : List Vl) : Nd × Int := if 16 < x.q.length + (sndV x p l).length then (ndZ, 9) else (sndN x (sndV x p l) (sndS x.s (sndT p l)), 0)
set_option maxRecDepth 100000 in
set_option maxHeartbeats 32000000 in
theorem send_any (x : Nd) (a1 a2 a3 a4 a5 : Option Addr) (c1 c2 c3 c4 c5 : Nat) (p : Int) (l : List Vl) (fa : Option Addr) (w : World) (h : NdIn w a1 a2 a3 a4 a5 x) (hok : NdOk x) (hb : ndB x = true) (hv : vrB p l = true) (hst : x.c.st = 2) :
  Calls Tryz.prog 48 #[.agg #[.int .i64 x.c.n.u, .int .i64 x.c.n.m, .int .i64 x.c.n.i, .int .i64 x.c.n.f, .int .i64 x.c.n.c, .int .i64 x.c.n.s, .int .i64 x.c.n.y, .bool x.c.n.a, .int .i64 x.c.ad, .int .i64 x.c.st, .int .i64 x.c.lf, .slice a1 x.c.tk.length c1, .slice a2 x.q.length c2, .slice a3 x.t.length c3, .slice a4 x.d.length c4, .slice a5 x.g.length c5, .int .i64 x.s], .agg #[.int .i64 (defD p).p, .int .i64 (defD p).s, .int .i64 (defD p).r, .slice fa (defD p).fs.length (defD p).fs.length], .string (sndT p l)] w (NdOutNew (sndG x p l).1 (sndG x p l).2 w) := by
 have K := snd_at hb hv hst
 have hF := fit_send (x := x) (s := sndS x.s (sndT p l)) hb K.all K.len
 have HFr0 := fun W => Lib.hid (frames_any x a1 a2 a3 a4 a5 c1 c2 c3 c4 c5 (sndT p l) W K.t0 K.t1 K.sq)
 have HTo := fun s W => Lib.hid (toAll_any x a1 c1 (defD p).p (defD p).s (defD p).r fa (defD p).fs.length s W)
 have hPL : putL x.q (sndV x p l) = if 16 < x.q.length + (sndV x p l).length then [] else x.q ++ sndV x p l := by
  unfold putL
  rw [K.put]
  by_cases h16 : 16 < x.q.length + (sndV x p l).length <;> simp [h16]
 have HP := fun a' c' W h h' => Lib.hid (implQueuePut_any a2 a' c2 c' x.q (sndV x p l) W h hok.1 (by have := K.q16; omega) h' K.ok (by have := K.len; omega))
 rw [hPL, K.put] at HP
 have HA := fun y d W h => Lib.hid (answered_any (sndN x (sndV x p l) (sndS x.s (sndT p l))) a1 y a3 a4 a5 c1 d c3 c4 c5 W h hF.small hF.cans hF.ses hF.gots)
 have HI := Lib.hid h
 have HQ2 := Lib.hid h.2.1
 have HI1 := Lib.hid h.1
 have HI3 := Lib.hid h.2.2.1
 have HI4 := Lib.hid h.2.2.2.1
 have HI5 := Lib.hid h.2.2.2.2
 have HO2 := Lib.hid (show sndG x p l = if 16 < x.q.length + (sndV x p l).length then (ndZ, 9) else (sndN x (sndV x p l) (sndS x.s (sndT p l)), 0) from rfl)
 have hsV : sndV x p l = sndC (defD p).r (defD p).p x.c.ad (sndF x.s (sndT p l)) := by rw [K.pg]; rfl
 have hLn := K.len
 have hQ16 := K.q16
 generalize sndG x p l = O at *
 clear hok h hb hv hst hPL K hF
 generalize sndT p l = T at *
 generalize (defD p).s = DS at *
 generalize (defD p).r = DR at *
 generalize (defD p).p = DP at *
 generalize (defD p).fs.length = FN at *
 generalize sndS x.s T = S at *
 generalize sndV x p l = VV at *
 generalize hFF : sndF x.s T = F at *
 clear hFF
 generalize hM : idN DR DP 255 x.c.ad = m at *
 have HM := Lib.hid hM
 have HVV := Lib.hid hsV
 clear hM hsV
 obtain ⟨n, hFn⟩ : ∃ n, F.length = n := ⟨_, rfl⟩
 rw [hFn] at HFr0
 have HFn := Lib.hid hFn
 have HVn := Lib.hid (show VV.length = n from by rw [HVV.out, sndC_len]; exact hFn)
 have hn32 : n ≤ 32 := by rw [← HVn.out]; exact hLn
 clear hFn
 obtain ⟨i0, hi, hz0, hz1, hz2⟩ := info_parts CansTo.info
 have HIc := Lib.hid (And.intro hi (And.intro hz0 (And.intro hz1 hz2)))
 clear hi hz0 hz1 hz2
 unfold QOut at HP
 unfold NdOutNew ndOutV at *
 unfold ndV at *
 dsimp only [sndN] at HA
 go_enter Tryz.func48, Tryz.ntmps48
 go_wp2_with (first
  | (refine wpList_box_h rfl 104 (.tmp 0) rfl #[.int .i64 x.c.n.u, .int .i64 x.c.n.m, .int .i64 x.c.n.i, .int .i64 x.c.n.f, .int .i64 x.c.n.c, .int .i64 x.c.n.s, .int .i64 x.c.n.y, .bool x.c.n.a, .int .i64 x.c.ad, .int .i64 x.c.st, .int .i64 x.c.lf, .slice a1 x.c.tk.length c1, .slice a2 x.q.length c2, .slice a3 x.t.length c3, .slice a4 x.d.length c4, .slice a5 x.g.length c5, .int .i64 x.s] rfl ?_; intro w1 R1 e1 g1 b1; have HL1 := Lib.hid (show Lg w w1 [(R1, (qH0 x a1 x.c.tk.length c1 a2 x.q.length c2 a3 x.t.length c3 a4 x.d.length c4 a5 x.g.length c5 x.s), 104)] [] from (Lg.first w).box e1 g1 b1); clear g1 b1 e1)
  | (refine wpList_box_h rfl 81 (.tmp 1) rfl #[.int .i64 DP, .int .i64 DS, .int .i64 DR, .slice fa FN FN] rfl ?_; intro w2 R2 e2 g2 b2; have qR2_R1 : R1 < R2 := Nat.lt_of_lt_of_eq (HL1.out.lt (.head _)) e2; have HL2 := Lib.hid (show Lg w w2 [(R2, #[.int .i64 DP, .int .i64 DS, .int .i64 DR, .slice fa FN FN], 81), (R1, (qH0 x a1 x.c.tk.length c1 a2 x.q.length c2 a3 x.t.length c3 a4 x.d.length c4 a5 x.g.length c5 x.s), 104)] [] from HL1.out.box e2 g2 b2); clear g2 b2 e2)
  | (refine wpList_alloc_h rfl 50 rfl (.agg #[.int .i64 0, .int .i64 0, .int .i64 0, .int .i64 0, .int .i64 0, .int .i64 0, .int .i64 0, .bool false, .int .i64 0, .int .i64 0, .int .i64 0, .slice none 0 0, .slice none 0 0, .slice none 0 0, .slice none 0 0, .slice none 0 0, .int .i64 0, .int .i64 0]) (by kernel_rfl) #[.int .i64 0, .int .i64 0, .int .i64 0, .int .i64 0, .int .i64 0, .int .i64 0, .int .i64 0, .bool false, .int .i64 0, .int .i64 0, .int .i64 0, .slice none 0 0, .slice none 0 0, .slice none 0 0, .slice none 0 0, .slice none 0 0, .int .i64 0, .int .i64 0] rfl ?_; intro w3 R3 e3 g3 b3; have qR3_R2 : R2 < R3 := Nat.lt_of_lt_of_eq (HL2.out.lt (.head _)) e3; have qR3_R1 : R1 < R3 := Nat.lt_of_lt_of_eq (HL2.out.lt qHm1) e3; have HL3 := Lib.hid (show Lg w w3 [(R3, (qH3), 50), (R2, #[.int .i64 DP, .int .i64 DS, .int .i64 DR, .slice fa FN FN], 81), (R1, (qH0 x a1 x.c.tk.length c1 a2 x.q.length c2 a3 x.t.length c3 a4 x.d.length c4 a5 x.g.length c5 x.s), 104)] [] from HL2.out.box e3 g3 b3); clear g3 b3 e3)
  | (refine wpList_load_at rfl 104 (.tmp 3) rfl (R1) 0 rfl 104 (qH0 x a1 x.c.tk.length c1 a2 x.q.length c2 a3 x.t.length c3 a4 x.d.length c4 a5 x.g.length c5 x.s) (0, 0) (HL3.out.get qHm2) [.int .i64 x.c.n.u, .int .i64 x.c.n.m, .int .i64 x.c.n.i, .int .i64 x.c.n.f, .int .i64 x.c.n.c, .int .i64 x.c.n.s, .int .i64 x.c.n.y, .bool x.c.n.a, .int .i64 x.c.ad, .int .i64 x.c.st, .int .i64 x.c.lf, .slice a1 x.c.tk.length c1, .slice a2 x.q.length c2, .slice a3 x.t.length c3, .slice a4 x.d.length c4, .slice a5 x.g.length c5, .int .i64 x.s] rfl _ Tryz.underlying104 rfl (by kernel_rfl) ?_))
 refine ((HFr0 _).out).mono ?_
 rintro e w4 ⟨FV, fd, rfl, hn, h⟩
 obtain ⟨L4, e4⟩ : ∃ x, w3.heap.size = x := ⟨_, rfl⟩
 obtain ⟨H4, f4⟩ : ∃ x, w4.heap.size = x := ⟨_, rfl⟩
 have qL4_R3 : R3 < L4 := Nat.lt_of_lt_of_eq (HL3.out.lt (.head _)) e4
 have qL4_R2 : R2 < L4 := Nat.lt_of_lt_of_eq (HL3.out.lt qHm1) e4
 have qL4_R1 : R1 < L4 := Nat.lt_of_lt_of_eq (HL3.out.lt qHm2) e4
 have qH4_L4 : L4 ≤ H4 := (by rw [← e4, ← f4]; exact h.size)
 have HL4 := Lib.hid (show Lg w w4 [(R3, (qH3), 50), (R2, #[.int .i64 DP, .int .i64 DS, .int .i64 DR, .slice fa FN FN], 81), (R1, (qH0 x a1 x.c.tk.length c1 a2 x.q.length c2 a3 x.t.length c3 a4 x.d.length c4 a5 x.g.length c5 x.s), 104)] [(L4, H4, (fun W => RsNew strL 1 9 L4 H4 W FV F))] from HL3.out.made e4 f4 h (by rw [← e4, ← f4]; exact hn.solid))
 clear h hn e4 f4
 go_wp2_with (first
  | (refine wpList_alloc_h rfl 104 rfl (.agg #[.int .i64 0, .int .i64 0, .int .i64 0, .int .i64 0, .int .i64 0, .int .i64 0, .int .i64 0, .bool false, .int .i64 0, .int .i64 0, .int .i64 0, .slice none 0 0, .slice none 0 0, .slice none 0 0, .slice none 0 0, .slice none 0 0, .int .i64 0]) (by kernel_rfl) #[.int .i64 0, .int .i64 0, .int .i64 0, .int .i64 0, .int .i64 0, .int .i64 0, .int .i64 0, .bool false, .int .i64 0, .int .i64 0, .int .i64 0, .slice none 0 0, .slice none 0 0, .slice none 0 0, .slice none 0 0, .slice none 0 0, .int .i64 0] rfl ?_; intro w5 R5 e5 g5 b5; have qR5_R3 : R3 < R5 := Nat.lt_of_lt_of_eq (HL4.out.lt (.head _)) e5; have qR5_R2 : R2 < R5 := Nat.lt_of_lt_of_eq (HL4.out.lt qHm1) e5; have qR5_R1 : R1 < R5 := Nat.lt_of_lt_of_eq (HL4.out.lt qHm2) e5; have qR5_H4 : H4 ≤ R5 := Nat.le_trans (HL4.out.hi (.head _)).2 (Nat.le_of_eq e5); have HL5 := Lib.hid (show Lg w w5 [(R5, (qH1), 104), (R3, (qH3), 50), (R2, #[.int .i64 DP, .int .i64 DS, .int .i64 DR, .slice fa FN FN], 81), (R1, (qH0 x a1 x.c.tk.length c1 a2 x.q.length c2 a3 x.t.length c3 a4 x.d.length c4 a5 x.g.length c5 x.s), 104)] [(L4, H4, (fun W => RsNew strL 1 9 L4 H4 W FV F))] from HL4.out.box e5 g5 b5); clear g5 b5 e5)
  | (refine wpList_put_at rfl 104 (.tmp 8) (.tmp 18) rfl rfl (R5) 0 rfl _ rfl #[.int .i64 x.c.n.u, .int .i64 x.c.n.m, .int .i64 x.c.n.i, .int .i64 x.c.n.f, .int .i64 x.c.n.c, .int .i64 x.c.n.s, .int .i64 x.c.n.y, .bool x.c.n.a, .int .i64 x.c.ad, .int .i64 x.c.st, .int .i64 x.c.lf, .slice a1 x.c.tk.length c1, .slice a2 x.q.length c2, .slice a3 x.t.length c3, .slice a4 x.d.length c4, .slice a5 x.g.length c5, .int .i64 S] rfl 104 (qH1) (qH0 x a1 x.c.tk.length c1 a2 x.q.length c2 a3 x.t.length c3 a4 x.d.length c4 a5 x.g.length c5 S) (HL5.out.get (.head _)) (by kernel_rfl) (by kernel_rfl) (by kernel_rfl) (by kernel_rfl) ?_; intro w6 g6 o6; have HL6 := Lib.hid (show Lg w w6 [(R5, (qH0 x a1 x.c.tk.length c1 a2 x.q.length c2 a3 x.t.length c3 a4 x.d.length c4 a5 x.g.length c5 S), 104), (R3, (qH3), 50), (R2, #[.int .i64 DP, .int .i64 DS, .int .i64 DR, .slice fa FN FN], 81), (R1, (qH0 x a1 x.c.tk.length c1 a2 x.q.length c2 a3 x.t.length c3 a4 x.d.length c4 a5 x.g.length c5 x.s), 104)] [(L4, H4, (fun W => RsNew strL 1 9 L4 H4 W FV F))] from HL5.out.put 0 rfl g6 o6 (qHf ⟨Nat.ne_of_lt qR5_R3, (qHf ⟨Nat.ne_of_lt qR5_R2, (qHf ⟨Nat.ne_of_lt qR5_R1, (fun _ h => nomatch h)⟩)⟩)⟩) (qHf ⟨.inl qR5_H4, (fun _ h => nomatch h)⟩) rfl); clear g6 o6))
 have HFU := Lib.hid (show RsIn strL 1 w6 FV F from (HL6.out.at (.head _)).ins)
 go_loopw [9, 11, 21] (fun v _ i wr => ∃ (k : Nat) (V : Value), i = .int .i64 (k : Int) ∧ V = v ∧ k ≤ n ∧ OwnIn canL 2 66 w6.heap.size wr.heap.size wr V (sndC DR DP x.c.ad (F.take k)) ∧ Below w6.heap.size w6 wr) (fun v _ i _ => n - (intOf i).toNat)
 case atStart => exact ⟨0, _, rfl, rfl, by omega, OwnIn.none _, Below.refl _ _⟩
 case round =>
  obtain ⟨k, V, rfl, rfl, hk, hown, hb⟩ := hrel
  have HOw := Lib.hid hown
  clear hown
  by_cases hkn : k < n
  ·have hkl : k < F.length := by have := HFn.out; omega
   have hi1 : (0 : Int) ≤ (k : Int) := by omega
   have hi2 : (k : Int) < (n : Int) := by omega
   obtain ⟨bb, oo, rfl, hlt, hc⟩ := HFU.out.at (by omega)
   obtain ⟨y, hy⟩ : ∃ y, F[k]? = some y := ⟨_, List.getElem?_eq_getElem hkl⟩
   have h0 := hc k y hy 0 _ rfl
   rw [Nat.mul_one, Nat.add_zero] at h0
   have HCy := Lib.hid ((hb.cell (p := ⟨bb, oo + k, none⟩) hlt).trans h0)
   have HX := Lib.hid (show sndC DR DP x.c.ad (F.take (k + 1)) = sndC DR DP x.c.ad (F.take k) ++ [(m, y)] from by rw [← HM.out]; exact sndC_take' hy)
   have hlen : (sndC DR DP x.c.ad (F.take k)).length ≤ 32 := by rw [sndC_len, List.length_take]; omega
   have HLen := Lib.hid hlen
   have HR1w := Lib.hid ((hb.block R1 (HL6.out.lt qHm3)).trans (HL6.out.get qHm3))
   have HR2w := Lib.hid ((hb.block R2 (HL6.out.lt qHm2)).trans (HL6.out.get qHm2))
   clear hc h0 hlen hy
   generalize sndC DR DP x.c.ad (F.take k) = C at *
   obtain ⟨LO, eLO⟩ : ∃ z, w6.heap.size = z := ⟨_, rfl⟩
   obtain ⟨HI1_, eHI⟩ : ∃ z, wr.heap.size = z := ⟨_, rfl⟩
   have HL1_ := Lib.hid (show Lg w6 wr [] [(LO, HI1_, fun W => OwnIn canL 2 66 LO HI1_ W V C)] from (by
    subst eLO eHI
    exact (⟨hb, fun r hr => (by cases hr), fun n hn => (by cases hn)⟩ : Lg w6 wr [] []).addNew HOw.out.solid (Nat.le_refl _) hb.size (Nat.le_refl _)))
   have HLO := Lib.hid eLO
   clear eLO eHI HOw
   go_wp2_with (first
    | (refine wpList_load_one1 rfl 9 (.tmp 23) rfl bb (oo + k) rfl (.string y) HCy.out _ Tryz.underlying9 rfl ?_)
    | (refine wpList_load_at (by kernel_rfl) 40 (.tmp 26) rfl (R1) 0 rfl 104 #[.int .i64 x.c.n.u, .int .i64 x.c.n.m, .int .i64 x.c.n.i, .int .i64 x.c.n.f, .int .i64 x.c.n.c, .int .i64 x.c.n.s, .int .i64 x.c.n.y, .bool x.c.n.a, .int .i64 x.c.ad, .int .i64 x.c.st, .int .i64 x.c.lf, .slice a1 x.c.tk.length c1, .slice a2 x.q.length c2, .slice a3 x.t.length c3, .slice a4 x.d.length c4, .slice a5 x.g.length c5, .int .i64 x.s] (0, 0) HR1w.out [.int .i64 x.c.n.u, .int .i64 x.c.n.m, .int .i64 x.c.n.i, .int .i64 x.c.n.f, .int .i64 x.c.n.c, .int .i64 x.c.n.s, .int .i64 x.c.n.y, .bool x.c.n.a, .int .i64 x.c.ad, .int .i64 x.c.st, .int .i64 x.c.lf, .slice a1 x.c.tk.length c1] rfl _ Tryz.underlying40 rfl (by kernel_rfl) ?_)
    | (refine wpList_load_at (by kernel_rfl) 81 (.tmp 4) rfl (R2) 0 rfl 81 #[.int .i64 DP, .int .i64 DS, .int .i64 DR, .slice fa FN FN] (0, 0) HR2w.out [.int .i64 DP, .int .i64 DS, .int .i64 DR, .slice fa FN FN] rfl _ Tryz.underlying81 rfl (by kernel_rfl) ?_))
   refine ((HTo y _).out).mono ?_
   rintro e w19 ⟨rfl, h⟩
   have HL19 := Lib.hid (HL1_.out.kept h)
   clear h HR1w HR2w
   go_wp2_with (first
    | (refine wpList_lit1 canL_len rfl 41 (.tmp 30) rfl 66 i0 Tryz.underlying41 HIc.out.1 _ HIc.out.2.1 HIc.out.2.2.1 (m, y) (.agg #[.int .i64 m, .string y]) rfl rfl rfl (by decide) (by decide) ?_; intro w20 R20 e20 hin20 b20; have HR20 := Lib.hid hin20; have HL20 := Lib.hid (HL19.out.kept b20); clear e20 hin20 b20)
    | (at_builtin; refine wpList_append_rs canL_len canL_one rfl (.tmp 25) (.tmp 31) 41 rfl 66 i0 _ 24 Tryz.underlying41 HIc.out.1 HIc.out.2.1 HIc.out.2.2.1 HIc.out.2.2.2 rfl (by decide) LO HI1_ V C rfl (HL20.out.at (.head _)) _ 1 [(m, y)] rfl HR20.out (by have := HLen.out; unfold maxLen; show _ + 1 ≤ _; omega) (by have := HLen.out; show (_ + 1) * 24 ≤ _; omega) (Nat.le_trans (HL20.out.hi (.head _)).1 (HL20.out.hi (.head _)).2) ?_; intro v21 w21 hown21 ho21; have HO21 := Lib.hid hown21; have HU21 := Lib.hid ho21; clear hown21 ho21))
   go_roundw
   case rel =>
    refine ⟨k + 1, _, by go_num, rfl, by omega, ?_, HU21.out.below HL20.out.below (HL20.out.lo (.head _)) HL20.out.below.size⟩
    have h := HO21.out
    rw [HX.out]
    have e := HLO.out
    subst e
    exact h
   case measure => simp [intOf]; omega
  ·have hge : n ≤ k := by omega
   have HV2 := Lib.hid (show sndC DR DP x.c.ad (F.take k) = VV from by rw [List.take_of_length_le (by have := HFn.out; omega), ← HVV.out])
   obtain ⟨y0, d0, rfl, -, hn0⟩ := HOw.out.new canL_len
   rw [HV2.out] at hn0 ⊢
   obtain ⟨L0, eL0⟩ : ∃ z, w6.heap.size = z := ⟨_, rfl⟩
   obtain ⟨H0, eH0⟩ : ∃ z, wr.heap.size = z := ⟨_, rfl⟩
   rw [eL0, eH0] at hn0
   clear HOw HV2 HVV HFU HFn HM HTo HFr0
   have HQ0 := Lib.hid hn0.cans.cans
   have HL50 := Lib.hid (show Lg w wr [(R5, (qH0 x a1 x.c.tk.length c1 a2 x.q.length c2 a3 x.t.length c3 a4 x.d.length c4 a5 x.g.length c5 S), 104), (R3, (qH3), 50), (R2, #[.int .i64 DP, .int .i64 DS, .int .i64 DR, .slice fa FN FN], 81), (R1, (qH0 x a1 x.c.tk.length c1 a2 x.q.length c2 a3 x.t.length c3 a4 x.d.length c4 a5 x.g.length c5 x.s), 104)] [(L4, H4, (fun W => RsNew strL 1 9 L4 H4 W FV F))] from HL6.out.kept hb)
   clear hn0 hb eL0 eH0
   go_wp2_with (first
    | (refine wpList_load_at (by kernel_rfl) 43 (.tmp 34) rfl (R1) 12 rfl 104 (qH0 x a1 x.c.tk.length c1 a2 x.q.length c2 a3 x.t.length c3 a4 x.d.length c4 a5 x.g.length c5 x.s) (0, 0) (HL50.out.get qHm3) [.slice a2 x.q.length c2] rfl _ Tryz.underlying43 rfl (by kernel_rfl) ?_))
   by_cases h16 : 16 < x.q.length + VV.length
   ·skip
    have ho : O = (ndZ, 9) := by rw [HO2.out, if_pos h16]
    rw [if_pos h16] at HP
    rw [if_pos h16] at HP
    clear HO2
    subst ho
    go_wp2_with fail
    refine ((HP _ _ _ (HQ2.out.kept HL50.out.below) HQ0.out).out).mono ?_
    rintro e w51 ⟨z1, u1, rfl, -, -, h⟩
    have HL51 := Lib.hid (show Lg w w51 [(R5, (qH0 x a1 x.c.tk.length c1 a2 x.q.length c2 a3 x.t.length c3 a4 x.d.length c4 a5 x.g.length c5 S), 104), (R3, (qH3), 50), (R2, #[.int .i64 DP, .int .i64 DS, .int .i64 DR, .slice fa FN FN], 81), (R1, (qH0 x a1 x.c.tk.length c1 a2 x.q.length c2 a3 x.t.length c3 a4 x.d.length c4 a5 x.g.length c5 x.s), 104)] [(L4, H4, (fun W => RsNew strL 1 9 L4 H4 W FV F))] from HL50.out.kept h)
    clear h
    go_wp2_with (first
     | (refine wpList_alloc_h rfl 90 rfl (.agg #[.slice none 0 0, .int .i64 0, .string ByteArray.empty, .int .i64 0]) (by kernel_rfl) #[.slice none 0 0, .int .i64 0, .string ByteArray.empty, .int .i64 0] rfl ?_; intro w52 R52 e52 g52 b52; have qR52_R5 : R5 < R52 := Nat.lt_of_lt_of_eq (HL51.out.lt (.head _)) e52; have qR52_R3 : R3 < R52 := Nat.lt_of_lt_of_eq (HL51.out.lt qHm1) e52; have qR52_R2 : R2 < R52 := Nat.lt_of_lt_of_eq (HL51.out.lt qHm2) e52; have qR52_R1 : R1 < R52 := Nat.lt_of_lt_of_eq (HL51.out.lt qHm3) e52; have qR52_H4 : H4 ≤ R52 := Nat.le_trans (HL51.out.hi (.head _)).2 (Nat.le_of_eq e52); have HL52 := Lib.hid (show Lg w w52 [(R52, (qH4), 90), (R5, (qH0 x a1 x.c.tk.length c1 a2 x.q.length c2 a3 x.t.length c3 a4 x.d.length c4 a5 x.g.length c5 S), 104), (R3, (qH3), 50), (R2, #[.int .i64 DP, .int .i64 DS, .int .i64 DR, .slice fa FN FN], 81), (R1, (qH0 x a1 x.c.tk.length c1 a2 x.q.length c2 a3 x.t.length c3 a4 x.d.length c4 a5 x.g.length c5 x.s), 104)] [(L4, H4, (fun W => RsNew strL 1 9 L4 H4 W FV F))] from HL51.out.box e52 g52 b52); clear g52 b52 e52)
     | (refine wpList_put_at rfl 90 (.tmp 12) (.tmp 37) rfl rfl (R52) 0 rfl (.agg #[.slice z1 ([] : List (Int × ByteArray)).length u1, .int .i64 0, .string ⟨#[]⟩, .int .i64 9]) rfl #[.slice z1 ([] : List (Int × ByteArray)).length u1, .int .i64 0, .string ⟨#[]⟩, .int .i64 9] rfl 90 (qH4) (qH5 z1 ([] : List (Int × ByteArray)).length u1) (HL52.out.get (.head _)) (by kernel_rfl) (by kernel_rfl) (by kernel_rfl) (by kernel_rfl) ?_; intro w53 g53 o53; have HL53 := Lib.hid (show Lg w w53 [(R52, (qH5 z1 ([] : List (Int × ByteArray)).length u1), 90), (R5, (qH0 x a1 x.c.tk.length c1 a2 x.q.length c2 a3 x.t.length c3 a4 x.d.length c4 a5 x.g.length c5 S), 104), (R3, (qH3), 50), (R2, #[.int .i64 DP, .int .i64 DS, .int .i64 DR, .slice fa FN FN], 81), (R1, (qH0 x a1 x.c.tk.length c1 a2 x.q.length c2 a3 x.t.length c3 a4 x.d.length c4 a5 x.g.length c5 x.s), 104)] [(L4, H4, (fun W => RsNew strL 1 9 L4 H4 W FV F))] from HL52.out.put 0 rfl g53 o53 (qHf ⟨Nat.ne_of_lt qR52_R5, (qHf ⟨Nat.ne_of_lt qR52_R3, (qHf ⟨Nat.ne_of_lt qR52_R2, (qHf ⟨Nat.ne_of_lt qR52_R1, (fun _ h => nomatch h)⟩)⟩)⟩)⟩) (qHf ⟨.inl qR52_H4, (fun _ h => nomatch h)⟩) rfl); clear g53 o53)
     | (refine wpList_load_one rfl 2 (.tmp 38) rfl (R52) 3 rfl 90 (qH5 z1 ([] : List (Int × ByteArray)).length u1) (0, 0) (HL53.out.get (.head _)) (.int .i64 9) rfl _ Tryz.underlying2 rfl (by kernel_rfl) ?_)
     | (refine wpList_load_one rfl 2 (.tmp 41) rfl (R52) 3 rfl 90 (qH5 z1 ([] : List (Int × ByteArray)).length u1) (0, 0) (HL53.out.get (.head _)) (.int .i64 9) rfl _ Tryz.underlying2 rfl (by kernel_rfl) ?_)
     | (refine wpList_put_at rfl 50 (.tmp 6) (.tmp 43) rfl rfl (R3) 0 rfl _ rfl #[.int .i64 0, .int .i64 0, .int .i64 0, .int .i64 0, .int .i64 0, .int .i64 0, .int .i64 0, .bool false, .int .i64 0, .int .i64 0, .int .i64 0, .slice none 0 0, .slice none 0 0, .slice none 0 0, .slice none 0 0, .slice none 0 0, .int .i64 0, .int .i64 9] rfl 50 (qH3) (qH6) (HL53.out.get qHm2) (by kernel_rfl) (by kernel_rfl) (by kernel_rfl) (by kernel_rfl) ?_; intro w54 g54 o54; have HL54 := Lib.hid (show Lg w w54 [(R52, (qH5 z1 ([] : List (Int × ByteArray)).length u1), 90), (R5, (qH0 x a1 x.c.tk.length c1 a2 x.q.length c2 a3 x.t.length c3 a4 x.d.length c4 a5 x.g.length c5 S), 104), (R3, (qH6), 50), (R2, #[.int .i64 DP, .int .i64 DS, .int .i64 DR, .slice fa FN FN], 81), (R1, (qH0 x a1 x.c.tk.length c1 a2 x.q.length c2 a3 x.t.length c3 a4 x.d.length c4 a5 x.g.length c5 x.s), 104)] [(L4, H4, (fun W => RsNew strL 1 9 L4 H4 W FV F))] from HL53.out.put 2 rfl g54 o54 (qHf ⟨Nat.ne_of_gt qR52_R3, (qHf ⟨Nat.ne_of_gt qR5_R3, (qHf ⟨Nat.ne_of_lt qR3_R2, (qHf ⟨Nat.ne_of_lt qR3_R1, (fun _ h => nomatch h)⟩)⟩)⟩)⟩) (qHf ⟨.inr qL4_R3, (fun _ h => nomatch h)⟩) rfl); clear g54 o54))
    exact bodyPost_ret (results_cell_row (p := 6) (ty := 50) (by kernel_rfl) _ _ (R3) 50 _ (0, 0) _ rfl (HL54.out.get qHm2) Tryz.underlying50 rfl (by kernel_rfl)) rfl ⟨none, none, none, none, none, ⟨0, 0, 0, 0, 0, rfl⟩, ndZ_new HL54.out.below.size, HL54.out.below⟩
   ·skip
    have ho : O = (sndN x VV S, 0) := by rw [HO2.out, if_neg h16]
    rw [if_neg h16] at HP
    rw [if_neg h16] at HP
    clear HO2
    subst ho
    obtain ⟨QL, hQL⟩ : ∃ L, x.q ++ VV = L := ⟨_, rfl⟩
    rw [hQL] at HP HA
    go_wp2_with fail
    refine ((HP _ _ _ (HQ2.out.kept HL50.out.below) HQ0.out).out).mono ?_
    rintro e w51 ⟨z1, u1, rfl, -, hn, h⟩
    obtain ⟨L51, e51⟩ : ∃ x, wr.heap.size = x := ⟨_, rfl⟩
    obtain ⟨H51, f51⟩ : ∃ x, w51.heap.size = x := ⟨_, rfl⟩
    have qL51_R5 : R5 < L51 := Nat.lt_of_lt_of_eq (HL50.out.lt (.head _)) e51
    have qL51_R3 : R3 < L51 := Nat.lt_of_lt_of_eq (HL50.out.lt qHm1) e51
    have qL51_R2 : R2 < L51 := Nat.lt_of_lt_of_eq (HL50.out.lt qHm2) e51
    have qL51_R1 : R1 < L51 := Nat.lt_of_lt_of_eq (HL50.out.lt qHm3) e51
    have qL51_H4 : H4 ≤ L51 := Nat.le_trans (HL50.out.hi (.head _)).2 (Nat.le_of_eq e51)
    have qH51_L51 : L51 ≤ H51 := (by rw [← e51, ← f51]; exact h.size)
    have HL51 := Lib.hid (show Lg w w51 [(R5, (qH0 x a1 x.c.tk.length c1 a2 x.q.length c2 a3 x.t.length c3 a4 x.d.length c4 a5 x.g.length c5 S), 104), (R3, (qH3), 50), (R2, #[.int .i64 DP, .int .i64 DS, .int .i64 DR, .slice fa FN FN], 81), (R1, (qH0 x a1 x.c.tk.length c1 a2 x.q.length c2 a3 x.t.length c3 a4 x.d.length c4 a5 x.g.length c5 x.s), 104)] [(L51, H51, (fun W => NewIn L51 H51 W z1 QL)), (L4, H4, (fun W => RsNew strL 1 9 L4 H4 W FV F))] from HL50.out.made e51 f51 h (by rw [← e51, ← f51]; exact hn.solid))
    clear h hn e51 f51
    go_wp2_with (first
     | (refine wpList_alloc_h rfl 90 rfl (.agg #[.slice none 0 0, .int .i64 0, .string ByteArray.empty, .int .i64 0]) (by kernel_rfl) #[.slice none 0 0, .int .i64 0, .string ByteArray.empty, .int .i64 0] rfl ?_; intro w52 R52 e52 g52 b52; have qR52_R5 : R5 < R52 := Nat.lt_of_lt_of_eq (HL51.out.lt (.head _)) e52; have qR52_R3 : R3 < R52 := Nat.lt_of_lt_of_eq (HL51.out.lt qHm1) e52; have qR52_R2 : R2 < R52 := Nat.lt_of_lt_of_eq (HL51.out.lt qHm2) e52; have qR52_R1 : R1 < R52 := Nat.lt_of_lt_of_eq (HL51.out.lt qHm3) e52; have qR52_H51 : H51 ≤ R52 := Nat.le_trans (HL51.out.hi (.head _)).2 (Nat.le_of_eq e52); have qR52_H4 : H4 ≤ R52 := Nat.le_trans (HL51.out.hi qHm1).2 (Nat.le_of_eq e52); have HL52 := Lib.hid (show Lg w w52 [(R52, (qH4), 90), (R5, (qH0 x a1 x.c.tk.length c1 a2 x.q.length c2 a3 x.t.length c3 a4 x.d.length c4 a5 x.g.length c5 S), 104), (R3, (qH3), 50), (R2, #[.int .i64 DP, .int .i64 DS, .int .i64 DR, .slice fa FN FN], 81), (R1, (qH0 x a1 x.c.tk.length c1 a2 x.q.length c2 a3 x.t.length c3 a4 x.d.length c4 a5 x.g.length c5 x.s), 104)] [(L51, H51, (fun W => NewIn L51 H51 W z1 QL)), (L4, H4, (fun W => RsNew strL 1 9 L4 H4 W FV F))] from HL51.out.box e52 g52 b52); clear g52 b52 e52)
     | (refine wpList_put_at rfl 90 (.tmp 12) (.tmp 37) rfl rfl (R52) 0 rfl (.agg #[.slice z1 QL.length u1, .int .i64 0, .string ⟨#[]⟩, .int .i64 0]) rfl #[.slice z1 QL.length u1, .int .i64 0, .string ⟨#[]⟩, .int .i64 0] rfl 90 (qH4) (qH7 z1 QL.length u1) (HL52.out.get (.head _)) (by kernel_rfl) (by kernel_rfl) (by kernel_rfl) (by kernel_rfl) ?_; intro w53 g53 o53; have HL53 := Lib.hid (show Lg w w53 [(R52, (qH7 z1 QL.length u1), 90), (R5, (qH0 x a1 x.c.tk.length c1 a2 x.q.length c2 a3 x.t.length c3 a4 x.d.length c4 a5 x.g.length c5 S), 104), (R3, (qH3), 50), (R2, #[.int .i64 DP, .int .i64 DS, .int .i64 DR, .slice fa FN FN], 81), (R1, (qH0 x a1 x.c.tk.length c1 a2 x.q.length c2 a3 x.t.length c3 a4 x.d.length c4 a5 x.g.length c5 x.s), 104)] [(L51, H51, (fun W => NewIn L51 H51 W z1 QL)), (L4, H4, (fun W => RsNew strL 1 9 L4 H4 W FV F))] from HL52.out.put 0 rfl g53 o53 (qHf ⟨Nat.ne_of_lt qR52_R5, (qHf ⟨Nat.ne_of_lt qR52_R3, (qHf ⟨Nat.ne_of_lt qR52_R2, (qHf ⟨Nat.ne_of_lt qR52_R1, (fun _ h => nomatch h)⟩)⟩)⟩)⟩) (qHf ⟨.inl qR52_H51, (qHf ⟨.inl qR52_H4, (fun _ h => nomatch h)⟩)⟩) rfl); clear g53 o53)
     | (refine wpList_load_one rfl 2 (.tmp 38) rfl (R52) 3 rfl 90 (qH7 z1 QL.length u1) (0, 0) (HL53.out.get (.head _)) (.int .i64 0) rfl _ Tryz.underlying2 rfl (by kernel_rfl) ?_)
     | (refine wpList_load_at rfl 43 (.tmp 44) rfl (R52) 0 rfl 90 (qH7 z1 QL.length u1) (0, 0) (HL53.out.get (.head _)) [.slice z1 QL.length u1] rfl _ Tryz.underlying43 rfl (by kernel_rfl) ?_)
     | (refine wpList_put_at rfl 43 (.tmp 46) (.tmp 45) rfl rfl (R5) 12 rfl (.agg #[.slice z1 QL.length u1]) rfl #[.slice z1 QL.length u1] rfl 104 (qH0 x a1 x.c.tk.length c1 a2 x.q.length c2 a3 x.t.length c3 a4 x.d.length c4 a5 x.g.length c5 S) (qH0 x a1 x.c.tk.length c1 z1 QL.length u1 a3 x.t.length c3 a4 x.d.length c4 a5 x.g.length c5 S) (HL53.out.get qHm1) (by kernel_rfl) (by kernel_rfl) (by kernel_rfl) (by kernel_rfl) ?_; intro w54 g54 o54; have HL54 := Lib.hid (show Lg w w54 [(R52, (qH7 z1 QL.length u1), 90), (R5, (qH0 x a1 x.c.tk.length c1 z1 QL.length u1 a3 x.t.length c3 a4 x.d.length c4 a5 x.g.length c5 S), 104), (R3, (qH3), 50), (R2, #[.int .i64 DP, .int .i64 DS, .int .i64 DR, .slice fa FN FN], 81), (R1, (qH0 x a1 x.c.tk.length c1 a2 x.q.length c2 a3 x.t.length c3 a4 x.d.length c4 a5 x.g.length c5 x.s), 104)] [(L51, H51, (fun W => NewIn L51 H51 W z1 QL)), (L4, H4, (fun W => RsNew strL 1 9 L4 H4 W FV F))] from HL53.out.put 1 rfl g54 o54 (qHf ⟨Nat.ne_of_gt qR52_R5, (qHf ⟨Nat.ne_of_lt qR5_R3, (qHf ⟨Nat.ne_of_lt qR5_R2, (qHf ⟨Nat.ne_of_lt qR5_R1, (fun _ h => nomatch h)⟩)⟩)⟩)⟩) (qHf ⟨.inr qL51_R5, (qHf ⟨.inl qR5_H4, (fun _ h => nomatch h)⟩)⟩) rfl); clear g54 o54)
     | (refine wpList_load_at rfl 104 (.tmp 8) rfl (R5) 0 rfl 104 (qH0 x a1 x.c.tk.length c1 z1 QL.length u1 a3 x.t.length c3 a4 x.d.length c4 a5 x.g.length c5 S) (0, 0) (HL54.out.get qHm1) [.int .i64 x.c.n.u, .int .i64 x.c.n.m, .int .i64 x.c.n.i, .int .i64 x.c.n.f, .int .i64 x.c.n.c, .int .i64 x.c.n.s, .int .i64 x.c.n.y, .bool x.c.n.a, .int .i64 x.c.ad, .int .i64 x.c.st, .int .i64 x.c.lf, .slice a1 x.c.tk.length c1, .slice z1 QL.length u1, .slice a3 x.t.length c3, .slice a4 x.d.length c4, .slice a5 x.g.length c5, .int .i64 S] rfl _ Tryz.underlying104 rfl (by kernel_rfl) ?_))
    refine ((HA _ _ _ ⟨HI1.out.kept HL54.out.below, (HL54.out.at (.head _)).cans, HI3.out.kept HL54.out.below, HI4.out.kept HL54.out.below, HI5.out.kept HL54.out.below⟩).out).mono ?_
    rintro e w55 ⟨p1, p2, p3, p4, p5, g1, g2, g3, g4, g5, rfl, hn, h⟩
    obtain ⟨L55, e55⟩ : ∃ x, w54.heap.size = x := ⟨_, rfl⟩
    obtain ⟨H55, f55⟩ : ∃ x, w55.heap.size = x := ⟨_, rfl⟩
    have qL55_R52 : R52 < L55 := Nat.lt_of_lt_of_eq (HL54.out.lt (.head _)) e55
    have qL55_R5 : R5 < L55 := Nat.lt_of_lt_of_eq (HL54.out.lt qHm1) e55
    have qL55_R3 : R3 < L55 := Nat.lt_of_lt_of_eq (HL54.out.lt qHm2) e55
    have qL55_R2 : R2 < L55 := Nat.lt_of_lt_of_eq (HL54.out.lt qHm3) e55
    have qL55_R1 : R1 < L55 := Nat.lt_of_lt_of_eq (HL54.out.lt (.tail _ qHm3)) e55
    have qL55_H51 : H51 ≤ L55 := Nat.le_trans (HL54.out.hi (.head _)).2 (Nat.le_of_eq e55)
    have qL55_H4 : H4 ≤ L55 := Nat.le_trans (HL54.out.hi qHm1).2 (Nat.le_of_eq e55)
    have qH55_L55 : L55 ≤ H55 := (by rw [← e55, ← f55]; exact h.size)
    have HL55 := Lib.hid (show Lg w w55 [(R52, (qH7 z1 QL.length u1), 90), (R5, (qH0 x a1 x.c.tk.length c1 z1 QL.length u1 a3 x.t.length c3 a4 x.d.length c4 a5 x.g.length c5 S), 104), (R3, (qH3), 50), (R2, #[.int .i64 DP, .int .i64 DS, .int .i64 DR, .slice fa FN FN], 81), (R1, (qH0 x a1 x.c.tk.length c1 a2 x.q.length c2 a3 x.t.length c3 a4 x.d.length c4 a5 x.g.length c5 x.s), 104)] [(L55, H55, (fun W => NdNew L55 H55 W p1 p2 p3 p4 p5 ⟨x.c, QL, x.t, x.d, x.g, S⟩)), (L51, H51, (fun W => NewIn L51 H51 W z1 QL)), (L4, H4, (fun W => RsNew strL 1 9 L4 H4 W FV F))] from HL54.out.made e55 f55 h (by rw [← e55, ← f55]; exact hn.solid))
    clear h hn e55 f55
    go_wp2_with (first
     | (refine wpList_put_at rfl 50 (.tmp 6) (.tmp 48) rfl rfl (R3) 0 rfl _ rfl #[.int .i64 x.c.n.u, .int .i64 x.c.n.m, .int .i64 x.c.n.i, .int .i64 x.c.n.f, .int .i64 x.c.n.c, .int .i64 x.c.n.s, .int .i64 x.c.n.y, .bool x.c.n.a, .int .i64 x.c.ad, .int .i64 x.c.st, .int .i64 x.c.lf, .slice p1 x.c.tk.length g1, .slice p2 QL.length g2, .slice p3 x.t.length g3, .slice p4 x.d.length g4, .slice p5 x.g.length g5, .int .i64 S, .int .i64 0] rfl 50 (qH3) #[.int .i64 x.c.n.u, .int .i64 x.c.n.m, .int .i64 x.c.n.i, .int .i64 x.c.n.f, .int .i64 x.c.n.c, .int .i64 x.c.n.s, .int .i64 x.c.n.y, .bool x.c.n.a, .int .i64 x.c.ad, .int .i64 x.c.st, .int .i64 x.c.lf, .slice p1 x.c.tk.length g1, .slice p2 QL.length g2, .slice p3 x.t.length g3, .slice p4 x.d.length g4, .slice p5 x.g.length g5, .int .i64 S, .int .i64 0] (HL55.out.get qHm2) (by kernel_rfl) (by kernel_rfl) (by kernel_rfl) (by kernel_rfl) ?_; intro w56 g56 o56; have HL56 := Lib.hid (show Lg w w56 [(R52, (qH7 z1 QL.length u1), 90), (R5, (qH0 x a1 x.c.tk.length c1 z1 QL.length u1 a3 x.t.length c3 a4 x.d.length c4 a5 x.g.length c5 S), 104), (R3, #[.int .i64 x.c.n.u, .int .i64 x.c.n.m, .int .i64 x.c.n.i, .int .i64 x.c.n.f, .int .i64 x.c.n.c, .int .i64 x.c.n.s, .int .i64 x.c.n.y, .bool x.c.n.a, .int .i64 x.c.ad, .int .i64 x.c.st, .int .i64 x.c.lf, .slice p1 x.c.tk.length g1, .slice p2 QL.length g2, .slice p3 x.t.length g3, .slice p4 x.d.length g4, .slice p5 x.g.length g5, .int .i64 S, .int .i64 0], 50), (R2, #[.int .i64 DP, .int .i64 DS, .int .i64 DR, .slice fa FN FN], 81), (R1, (qH0 x a1 x.c.tk.length c1 a2 x.q.length c2 a3 x.t.length c3 a4 x.d.length c4 a5 x.g.length c5 x.s), 104)] [(L55, H55, (fun W => NdNew L55 H55 W p1 p2 p3 p4 p5 ⟨x.c, QL, x.t, x.d, x.g, S⟩)), (L51, H51, (fun W => NewIn L51 H51 W z1 QL)), (L4, H4, (fun W => RsNew strL 1 9 L4 H4 W FV F))] from HL55.out.put 2 rfl g56 o56 (qHf ⟨Nat.ne_of_gt qR52_R3, (qHf ⟨Nat.ne_of_gt qR5_R3, (qHf ⟨Nat.ne_of_lt qR3_R2, (qHf ⟨Nat.ne_of_lt qR3_R1, (fun _ h => nomatch h)⟩)⟩)⟩)⟩) (qHf ⟨.inr qL55_R3, (qHf ⟨.inr qL51_R3, (qHf ⟨.inr qL4_R3, (fun _ h => nomatch h)⟩)⟩)⟩) rfl); clear g56 o56))
    subst hQL
    exact bodyPost_ret (results_cell_row (p := 6) (ty := 50) (by kernel_rfl) _ _ (R3) 50 _ (0, 0) _ rfl (HL56.out.get qHm2) Tryz.underlying50 rfl (by kernel_rfl)) rfl ⟨p1, p2, p3, p4, p5, ⟨g1, g2, g3, g4, g5, rfl⟩, (HL56.out.at (.head _)).wide (HL56.out.lo (.head _)) (HL56.out.hi (.head _)).2, HL56.out.below⟩
def FinN (R2 lo : Nat) (o : Nd × Int) (W : World) : Prop := ∃ (y1 y2 y3 y4 y5 : Option Addr) (d1 d2 d3 d4 d5 : Nat), W.heap[R2]? = some (.cells #[.int .i64 o.1.c.n.u, .int .i64 o.1.c.n.m, .int .i64 o.1.c.n.i, .int .i64 o.1.c.n.f, .int .i64 o.1.c.n.c, .int .i64 o.1.c.n.s, .int .i64 o.1.c.n.y, .bool o.1.c.n.a, .int .i64 o.1.c.ad, .int .i64 o.1.c.st, .int .i64 o.1.c.lf, .slice y1 o.1.c.tk.length d1, .slice y2 o.1.q.length d2, .slice y3 o.1.t.length d3, .slice y4 o.1.d.length d4, .slice y5 o.1.g.length d5, .int .i64 o.1.s, .int .i64 o.2] 50 (0, 0)) ∧ NdNew lo W.heap.size W y1 y2 y3 y4 y5 o.1
def RN (R2 lo : Nat) (o : Nd × Int) (W W' : World) : Prop := Out R2 (R2 + 1) W W' ∧ (W'.heap[R2]? = W.heap[R2]? ∨ FinN R2 lo o W')
structure CN (w : World) (R2 lo : Nat) (o : Nd × Int) (W : World) : Prop where
 out : Out R2 (R2 + 1) w W
 res : W.heap[R2]? = some (.cells #[.int .i64 0, .int .i64 0, .int .i64 0, .int .i64 0, .int .i64 0, .int .i64 0, .int .i64 0, .bool false, .int .i64 0, .int .i64 0, .int .i64 0, .slice none 0 0, .slice none 0 0, .slice none 0 0, .slice none 0 0, .slice none 0 0, .int .i64 0, .int .i64 0] 50 (0, 0)) ∨ FinN R2 lo o W
section
variable {w W W' : World} {R2 lo : Nat} {o : Nd × Int}
theorem ndnew_out {y1 y2 y3 y4 y5 : Option Addr} {x : Nd} (h : NdNew lo W.heap.size W y1 y2 y3 y4 y5 x) (ho : Out R2 (R2 + 1) W W') (hlt : R2 < lo) : NdNew lo W'.heap.size W' y1 y2 y3 y4 y5 x :=
 (h.solid W' ho.size (fun k h1 h2 => ho.block k h2 (.inr (by omega)))).wide (Nat.le_refl _) ho.size
theorem RN.refl : RN R2 lo o W W := ⟨Out.refl _ _ _, .inl rfl⟩
theorem RN.fin (h : RN R2 lo o W W') (k : FinN R2 lo o W) (hlt : R2 < lo) : FinN R2 lo o W' := by
 rcases h.2 with q | q
 ·obtain ⟨y1, y2, y3, y4, y5, d1, d2, d3, d4, d5, k1, k2⟩ := k
  exact ⟨y1, y2, y3, y4, y5, d1, d2, d3, d4, d5, q.trans k1, ndnew_out k2 h.1 hlt⟩
 ·exact q
theorem CN.lt (h : CN w R2 lo o W) : R2 < W.heap.size := h.res.elim (fun q => (Array.getElem?_eq_some_iff.1 q).1) (fun ⟨_, _, _, _, _, _, _, _, _, _, q, _⟩ => (Array.getElem?_eq_some_iff.1 q).1)
theorem CN.rs (h : CN w R2 lo o W) (hb : Below W.heap.size W W') : RN R2 lo o W W' := ⟨Out.of_below hb, .inl (hb.block _ h.lt)⟩
theorem CN.go (h : CN w R2 lo o W) (hb : Below W.heap.size W W') (hlt : R2 < lo) : CN w R2 lo o W' :=
 ⟨h.out.trans (Out.of_below hb), h.res.imp (fun q => (hb.block _ h.lt).trans q) (fun q => (h.rs hb).fin q hlt)⟩
end
def TN (R2 lo : Nat) (o : Nd × Int) (V VL : Value) (p : Int) (T : ByteArray) : Nat → World → Value → Prop
 | 0, _, v => v = V
 | 1, _, v => v = .int .i64 p
 | 2, _, v => ∃ fa, v = .agg #[.int .i64 (defD p).p, .int .i64 (defD p).s, .int .i64 (defD p).r, .slice fa (defD p).fs.length (defD p).fs.length]
 | 3, _, v => v = .int .i64 p
 | 4, _, v => v = VL
 | 5, _, v => v = .string T
 | 6, W, v => ∃ (y1 y2 y3 y4 y5 : Option Addr) (d1 d2 d3 d4 d5 : Nat), v = .agg #[.int .i64 o.1.c.n.u, .int .i64 o.1.c.n.m, .int .i64 o.1.c.n.i, .int .i64 o.1.c.n.f, .int .i64 o.1.c.n.c, .int .i64 o.1.c.n.s, .int .i64 o.1.c.n.y, .bool o.1.c.n.a, .int .i64 o.1.c.ad, .int .i64 o.1.c.st, .int .i64 o.1.c.lf, .slice y1 o.1.c.tk.length d1, .slice y2 o.1.q.length d2, .slice y3 o.1.t.length d3, .slice y4 o.1.d.length d4, .slice y5 o.1.g.length d5, .int .i64 o.1.s, .int .i64 o.2] ∧ NdNew lo W.heap.size W y1 y2 y3 y4 y5 o.1
 | 7, W, _ => FinN R2 lo o W
 | _ + 8, _, _ => True
theorem TN.kept {R2 lo : Nat} {o : Nd × Int} {V VL : Value} {p : Int} {T : ByteArray} (hlt : R2 < lo) : ∀ j w w' v, RN R2 lo o w w' → TN R2 lo o V VL p T j w v → TN R2 lo o V VL p T j w' v
 | 0, _, _, _, _, h | 1, _, _, _, _, h | 2, _, _, _, _, h | 3, _, _, _, _, h | 4, _, _, _, _, h | 5, _, _, _, _, h => h
 | 6, _, _, _, hR, ⟨y1, y2, y3, y4, y5, d1, d2, d3, d4, d5, h1, h2⟩ => ⟨y1, y2, y3, y4, y5, d1, d2, d3, d4, d5, h1, ndnew_out h2 hR.1 hlt⟩
 | 7, _, _, _, hR, h => hR.fin h hlt
 | _ + 8, _, _, _, _, h => h
set_option maxRecDepth 100000 in
set_option maxHeartbeats 32000000 in
theorem implNodeSend_any (x : Nd) (a1 a2 a3 a4 a5 : Option Addr) (c1 c2 c3 c4 c5 : Nat) (p : Int) (b : Option Addr) (d : Nat) (l : List Vl) (w : World) (h : NdIn w a1 a2 a3 a4 a5 x) (hok : NdOk x) (hs : NdSmall x) (hc4 : x.d.length ≤ c4) (hl : RsIn vlL 2 w b l) (hlen : l.length ≤ maxLen) :
  Calls Tryz.prog 11 #[ndV x a1 a2 a3 a4 a5 c1 c2 c3 c4 c5, .int .i64 p, .slice b l.length d] w (NdOutNew (sndO x p l).1 (sndO x p l).2 w) := by
 have HFl := fun W (hW : NdIn W a1 a2 a3 a4 a5 x) (hL : RsIn vlL 2 W b l) => Lib.hid (sendFault_any x a1 a2 a3 a4 a5 c1 c2 c3 c4 c5 p b d l W hW hok hs hc4 hL hlen)
 have HAw := fun W => Lib.hid (atWork_any x a1 a2 a3 a4 a5 c1 c2 c3 c4 c5 W)
 have HH := fun W => Lib.hid (holding_any x a1 c1 W)
 have HI := Lib.hid h
 have HL := Lib.hid hl
 by_cases h0 : sndE x p l = 0
 rotate_left
 ·have hcd : (sndE x p l != 0) = true := by simpa using h0
  have ho : sndO x p l = (ndZ, sndE x p l) := by
   unfold sndE at h0 ⊢
   unfold sndO
   split
   ·rfl
   split
   ·rfl
   ·rename_i k1 k2
    rw [if_neg k1, if_neg k2] at h0
    exact absurd rfl h0
  rw [ho]
  generalize sndE x p l = cd at *
  generalize l.length = N at *
  clear ho h0 hok hs hc4 hl hlen h
  unfold ndV NdOutNew ndOutV at *
  go_enter Tryz.func11, Tryz.ntmps11
  go_wp2_with (first
   | (refine wpList_box_h rfl 48 (.tmp 0) rfl #[.int .i64 x.c.n.u, .int .i64 x.c.n.m, .int .i64 x.c.n.i, .int .i64 x.c.n.f, .int .i64 x.c.n.c, .int .i64 x.c.n.s, .int .i64 x.c.n.y, .bool x.c.n.a, .int .i64 x.c.ad, .int .i64 x.c.st, .int .i64 x.c.lf, .slice a1 x.c.tk.length c1, .slice a2 x.q.length c2, .slice a3 x.t.length c3, .slice a4 x.d.length c4, .slice a5 x.g.length c5, .int .i64 x.s] rfl ?_; intro w1 R1 e1 g1 b1; have HL1 := Lib.hid (show Lg w w1 [(R1, (qH0 x a1 x.c.tk.length c1 a2 x.q.length c2 a3 x.t.length c3 a4 x.d.length c4 a5 x.g.length c5 x.s), 48)] [] from (Lg.first w).box e1 g1 b1); clear g1 b1 e1)
   | (refine wpList_alloc_h rfl 50 rfl (.agg #[.int .i64 0, .int .i64 0, .int .i64 0, .int .i64 0, .int .i64 0, .int .i64 0, .int .i64 0, .bool false, .int .i64 0, .int .i64 0, .int .i64 0, .slice none 0 0, .slice none 0 0, .slice none 0 0, .slice none 0 0, .slice none 0 0, .int .i64 0, .int .i64 0]) (by kernel_rfl) #[.int .i64 0, .int .i64 0, .int .i64 0, .int .i64 0, .int .i64 0, .int .i64 0, .int .i64 0, .bool false, .int .i64 0, .int .i64 0, .int .i64 0, .slice none 0 0, .slice none 0 0, .slice none 0 0, .slice none 0 0, .slice none 0 0, .int .i64 0, .int .i64 0] rfl ?_; intro w2 R2 e2 g2 b2; have qR2_R1 : R1 < R2 := Nat.lt_of_lt_of_eq (HL1.out.lt (.head _)) e2; have HL2 := Lib.hid (show Lg w w2 [(R2, (qH3), 50), (R1, (qH0 x a1 x.c.tk.length c1 a2 x.q.length c2 a3 x.t.length c3 a4 x.d.length c4 a5 x.g.length c5 x.s), 48)] [] from HL1.out.box e2 g2 b2); clear g2 b2 e2)
   | (refine wpList_load_at (by kernel_rfl) 48 (.tmp 3) rfl (R1) 0 rfl 48 (qH0 x a1 x.c.tk.length c1 a2 x.q.length c2 a3 x.t.length c3 a4 x.d.length c4 a5 x.g.length c5 x.s) (0, 0) (HL2.out.get qHm1) [.int .i64 x.c.n.u, .int .i64 x.c.n.m, .int .i64 x.c.n.i, .int .i64 x.c.n.f, .int .i64 x.c.n.c, .int .i64 x.c.n.s, .int .i64 x.c.n.y, .bool x.c.n.a, .int .i64 x.c.ad, .int .i64 x.c.st, .int .i64 x.c.lf, .slice a1 x.c.tk.length c1, .slice a2 x.q.length c2, .slice a3 x.t.length c3, .slice a4 x.d.length c4, .slice a5 x.g.length c5, .int .i64 x.s] rfl _ Tryz.underlying48 rfl (by kernel_rfl) ?_))
  refine ((HFl _ (HI.out.kept HL2.out.below) (HL.out.kept HL2.out.below)).out).mono ?_
  rintro e w3 ⟨rfl, h⟩
  have HL3 := Lib.hid (show Lg w w3 [(R2, (qH3), 50), (R1, (qH0 x a1 x.c.tk.length c1 a2 x.q.length c2 a3 x.t.length c3 a4 x.d.length c4 a5 x.g.length c5 x.s), 48)] [] from HL2.out.kept h)
  clear h
  go_wp2_with (first
   | (refine wpList_put_at rfl 50 (.tmp 6) (.tmp 16) rfl rfl (R2) 0 rfl _ rfl #[.int .i64 0, .int .i64 0, .int .i64 0, .int .i64 0, .int .i64 0, .int .i64 0, .int .i64 0, .bool false, .int .i64 0, .int .i64 0, .int .i64 0, .slice none 0 0, .slice none 0 0, .slice none 0 0, .slice none 0 0, .slice none 0 0, .int .i64 0, .int .i64 cd] rfl 50 (qH3) (qH8 cd) (HL3.out.get (.head _)) (by kernel_rfl) (by kernel_rfl) (by kernel_rfl) (by kernel_rfl) ?_; intro w4 g4 o4; have HL4 := Lib.hid (show Lg w w4 [(R2, (qH8 cd), 50), (R1, (qH0 x a1 x.c.tk.length c1 a2 x.q.length c2 a3 x.t.length c3 a4 x.d.length c4 a5 x.g.length c5 x.s), 48)] [] from HL3.out.put 0 rfl g4 o4 (qHf ⟨Nat.ne_of_lt qR2_R1, (fun _ h => nomatch h)⟩) (fun _ h => nomatch h) rfl); clear g4 o4))
  exact bodyPost_ret (results_cell_row (p := 6) (ty := 50) (by kernel_rfl) _ _ (R2) 50 _ (0, 0) _ rfl (HL4.out.get (.head _)) Tryz.underlying50 rfl (by kernel_rfl)) rfl ⟨none, none, none, none, none, 0, 0, 0, 0, 0, rfl, ndZ_new HL4.out.below.size, HL4.out.below⟩
 obtain ⟨hb, hv⟩ : ndB x = true ∧ vrB p l = true := by
  unfold sndE at h0
  split at h0
  ·cases h0
  split at h0
  ·cases h0
  ·rename_i k1 k2
   simpa using k2
 have h4 : ¬ 400 < l.length := by
  unfold sndE at h0
  split at h0
  ·cases h0
  ·assumption
 rw [h0] at HFl
 by_cases hst : x.c.st = 2
 rotate_left
 ·have hd2 : (x.c.st == 2) = false := by simpa using hst
  have ho : sndO x p l = (ndZ, 10) := by
   unfold sndO
   rw [if_neg h4, hb, hv]
   simp [hst]
  rw [ho]
  rw [hd2] at HH
  generalize l.length = N at *
  clear ho h0 hok hs hc4 hl hlen h hb hv hst h4 hd2
  unfold ndV NdOutNew ndOutV at *
  go_enter Tryz.func11, Tryz.ntmps11
  go_wp2_with (first
   | (refine wpList_box_h rfl 48 (.tmp 0) rfl #[.int .i64 x.c.n.u, .int .i64 x.c.n.m, .int .i64 x.c.n.i, .int .i64 x.c.n.f, .int .i64 x.c.n.c, .int .i64 x.c.n.s, .int .i64 x.c.n.y, .bool x.c.n.a, .int .i64 x.c.ad, .int .i64 x.c.st, .int .i64 x.c.lf, .slice a1 x.c.tk.length c1, .slice a2 x.q.length c2, .slice a3 x.t.length c3, .slice a4 x.d.length c4, .slice a5 x.g.length c5, .int .i64 x.s] rfl ?_; intro w1 R1 e1 g1 b1; have HL1 := Lib.hid (show Lg w w1 [(R1, (qH0 x a1 x.c.tk.length c1 a2 x.q.length c2 a3 x.t.length c3 a4 x.d.length c4 a5 x.g.length c5 x.s), 48)] [] from (Lg.first w).box e1 g1 b1); clear g1 b1 e1)
   | (refine wpList_alloc_h rfl 50 rfl (.agg #[.int .i64 0, .int .i64 0, .int .i64 0, .int .i64 0, .int .i64 0, .int .i64 0, .int .i64 0, .bool false, .int .i64 0, .int .i64 0, .int .i64 0, .slice none 0 0, .slice none 0 0, .slice none 0 0, .slice none 0 0, .slice none 0 0, .int .i64 0, .int .i64 0]) (by kernel_rfl) #[.int .i64 0, .int .i64 0, .int .i64 0, .int .i64 0, .int .i64 0, .int .i64 0, .int .i64 0, .bool false, .int .i64 0, .int .i64 0, .int .i64 0, .slice none 0 0, .slice none 0 0, .slice none 0 0, .slice none 0 0, .slice none 0 0, .int .i64 0, .int .i64 0] rfl ?_; intro w2 R2 e2 g2 b2; have qR2_R1 : R1 < R2 := Nat.lt_of_lt_of_eq (HL1.out.lt (.head _)) e2; have HL2 := Lib.hid (show Lg w w2 [(R2, (qH3), 50), (R1, (qH0 x a1 x.c.tk.length c1 a2 x.q.length c2 a3 x.t.length c3 a4 x.d.length c4 a5 x.g.length c5 x.s), 48)] [] from HL1.out.box e2 g2 b2); clear g2 b2 e2)
   | (refine wpList_load_at (by kernel_rfl) 48 (.tmp 3) rfl (R1) 0 rfl 48 (qH0 x a1 x.c.tk.length c1 a2 x.q.length c2 a3 x.t.length c3 a4 x.d.length c4 a5 x.g.length c5 x.s) (0, 0) (HL2.out.get qHm1) [.int .i64 x.c.n.u, .int .i64 x.c.n.m, .int .i64 x.c.n.i, .int .i64 x.c.n.f, .int .i64 x.c.n.c, .int .i64 x.c.n.s, .int .i64 x.c.n.y, .bool x.c.n.a, .int .i64 x.c.ad, .int .i64 x.c.st, .int .i64 x.c.lf, .slice a1 x.c.tk.length c1, .slice a2 x.q.length c2, .slice a3 x.t.length c3, .slice a4 x.d.length c4, .slice a5 x.g.length c5, .int .i64 x.s] rfl _ Tryz.underlying48 rfl (by kernel_rfl) ?_))
  refine ((HFl _ (HI.out.kept HL2.out.below) (HL.out.kept HL2.out.below)).out).mono ?_
  rintro e w3 ⟨rfl, h⟩
  have HL3 := Lib.hid (show Lg w w3 [(R2, (qH3), 50), (R1, (qH0 x a1 x.c.tk.length c1 a2 x.q.length c2 a3 x.t.length c3 a4 x.d.length c4 a5 x.g.length c5 x.s), 48)] [] from HL2.out.kept h)
  clear h
  go_wp2_with (first
   | (refine wpList_load_at (by kernel_rfl) 48 (.tmp 3) rfl (R1) 0 rfl 48 (qH0 x a1 x.c.tk.length c1 a2 x.q.length c2 a3 x.t.length c3 a4 x.d.length c4 a5 x.g.length c5 x.s) (0, 0) (HL3.out.get qHm1) [.int .i64 x.c.n.u, .int .i64 x.c.n.m, .int .i64 x.c.n.i, .int .i64 x.c.n.f, .int .i64 x.c.n.c, .int .i64 x.c.n.s, .int .i64 x.c.n.y, .bool x.c.n.a, .int .i64 x.c.ad, .int .i64 x.c.st, .int .i64 x.c.lf, .slice a1 x.c.tk.length c1, .slice a2 x.q.length c2, .slice a3 x.t.length c3, .slice a4 x.d.length c4, .slice a5 x.g.length c5, .int .i64 x.s] rfl _ Tryz.underlying48 rfl (by kernel_rfl) ?_))
  refine ((HAw _).out).mono ?_
  rintro e w4 ⟨rfl, h⟩
  have HL4 := Lib.hid (show Lg w w4 [(R2, (qH3), 50), (R1, (qH0 x a1 x.c.tk.length c1 a2 x.q.length c2 a3 x.t.length c3 a4 x.d.length c4 a5 x.g.length c5 x.s), 48)] [] from HL3.out.kept h)
  clear h
  go_wp2_with (first
   | (refine wpList_alloc_h rfl 104 rfl (.agg #[.int .i64 0, .int .i64 0, .int .i64 0, .int .i64 0, .int .i64 0, .int .i64 0, .int .i64 0, .bool false, .int .i64 0, .int .i64 0, .int .i64 0, .slice none 0 0, .slice none 0 0, .slice none 0 0, .slice none 0 0, .slice none 0 0, .int .i64 0]) (by kernel_rfl) #[.int .i64 0, .int .i64 0, .int .i64 0, .int .i64 0, .int .i64 0, .int .i64 0, .int .i64 0, .bool false, .int .i64 0, .int .i64 0, .int .i64 0, .slice none 0 0, .slice none 0 0, .slice none 0 0, .slice none 0 0, .slice none 0 0, .int .i64 0] rfl ?_; intro w5 R5 e5 g5 b5; have qR5_R2 : R2 < R5 := Nat.lt_of_lt_of_eq (HL4.out.lt (.head _)) e5; have qR5_R1 : R1 < R5 := Nat.lt_of_lt_of_eq (HL4.out.lt qHm1) e5; have HL5 := Lib.hid (show Lg w w5 [(R5, (qH1), 104), (R2, (qH3), 50), (R1, (qH0 x a1 x.c.tk.length c1 a2 x.q.length c2 a3 x.t.length c3 a4 x.d.length c4 a5 x.g.length c5 x.s), 48)] [] from HL4.out.box e5 g5 b5); clear g5 b5 e5)
   | (refine wpList_put_at rfl 104 (.tmp 8) (.tmp 18) rfl rfl (R5) 0 rfl _ rfl #[.int .i64 x.c.n.u, .int .i64 x.c.n.m, .int .i64 x.c.n.i, .int .i64 x.c.n.f, .int .i64 x.c.n.c, .int .i64 x.c.n.s, .int .i64 x.c.n.y, .bool x.c.n.a, .int .i64 x.c.ad, .int .i64 x.c.st, .int .i64 x.c.lf, .slice a1 x.c.tk.length c1, .slice a2 x.q.length c2, .slice a3 x.t.length c3, .slice a4 x.d.length c4, .slice a5 x.g.length c5, .int .i64 x.s] rfl 104 (qH1) (qH0 x a1 x.c.tk.length c1 a2 x.q.length c2 a3 x.t.length c3 a4 x.d.length c4 a5 x.g.length c5 x.s) (HL5.out.get (.head _)) (by kernel_rfl) (by kernel_rfl) (by kernel_rfl) (by kernel_rfl) ?_; intro w6 g6 o6; have HL6 := Lib.hid (show Lg w w6 [(R5, (qH0 x a1 x.c.tk.length c1 a2 x.q.length c2 a3 x.t.length c3 a4 x.d.length c4 a5 x.g.length c5 x.s), 104), (R2, (qH3), 50), (R1, (qH0 x a1 x.c.tk.length c1 a2 x.q.length c2 a3 x.t.length c3 a4 x.d.length c4 a5 x.g.length c5 x.s), 48)] [] from HL5.out.put 0 rfl g6 o6 (qHf ⟨Nat.ne_of_lt qR5_R2, (qHf ⟨Nat.ne_of_lt qR5_R1, (fun _ h => nomatch h)⟩)⟩) (fun _ h => nomatch h) rfl); clear g6 o6)
   | (refine wpList_load_at (by kernel_rfl) 40 (.tmp 19) rfl (R5) 0 rfl 104 (qH0 x a1 x.c.tk.length c1 a2 x.q.length c2 a3 x.t.length c3 a4 x.d.length c4 a5 x.g.length c5 x.s) (0, 0) (HL6.out.get (.head _)) [.int .i64 x.c.n.u, .int .i64 x.c.n.m, .int .i64 x.c.n.i, .int .i64 x.c.n.f, .int .i64 x.c.n.c, .int .i64 x.c.n.s, .int .i64 x.c.n.y, .bool x.c.n.a, .int .i64 x.c.ad, .int .i64 x.c.st, .int .i64 x.c.lf, .slice a1 x.c.tk.length c1] rfl _ Tryz.underlying40 rfl (by kernel_rfl) ?_))
  refine ((HH _).out).mono ?_
  rintro e w7 ⟨rfl, h⟩
  have HL7 := Lib.hid (show Lg w w7 [(R5, (qH0 x a1 x.c.tk.length c1 a2 x.q.length c2 a3 x.t.length c3 a4 x.d.length c4 a5 x.g.length c5 x.s), 104), (R2, (qH3), 50), (R1, (qH0 x a1 x.c.tk.length c1 a2 x.q.length c2 a3 x.t.length c3 a4 x.d.length c4 a5 x.g.length c5 x.s), 48)] [] from HL6.out.kept h)
  clear h
  go_wp2_with (first
   | (refine wpList_put_at rfl 50 (.tmp 6) (.tmp 23) rfl rfl (R2) 0 rfl _ rfl #[.int .i64 0, .int .i64 0, .int .i64 0, .int .i64 0, .int .i64 0, .int .i64 0, .int .i64 0, .bool false, .int .i64 0, .int .i64 0, .int .i64 0, .slice none 0 0, .slice none 0 0, .slice none 0 0, .slice none 0 0, .slice none 0 0, .int .i64 0, .int .i64 10] rfl 50 (qH3) (qH9) (HL7.out.get qHm1) (by kernel_rfl) (by kernel_rfl) (by kernel_rfl) (by kernel_rfl) ?_; intro w8 g8 o8; have HL8 := Lib.hid (show Lg w w8 [(R5, (qH0 x a1 x.c.tk.length c1 a2 x.q.length c2 a3 x.t.length c3 a4 x.d.length c4 a5 x.g.length c5 x.s), 104), (R2, (qH9), 50), (R1, (qH0 x a1 x.c.tk.length c1 a2 x.q.length c2 a3 x.t.length c3 a4 x.d.length c4 a5 x.g.length c5 x.s), 48)] [] from HL7.out.put 1 rfl g8 o8 (qHf ⟨Nat.ne_of_gt qR5_R2, (qHf ⟨Nat.ne_of_lt qR2_R1, (fun _ h => nomatch h)⟩)⟩) (fun _ h => nomatch h) rfl); clear g8 o8))
  exact bodyPost_ret (results_cell_row (p := 6) (ty := 50) (by kernel_rfl) _ _ (R2) 50 _ (0, 0) _ rfl (HL8.out.get qHm1) Tryz.underlying50 rfl (by kernel_rfl)) rfl ⟨none, none, none, none, none, 0, 0, 0, 0, 0, rfl, ndZ_new HL8.out.below.size, HL8.out.below⟩
 have hd2 : (x.c.st == 2) = true := by simpa using hst
 have ho : sndO x p l = sndG x p l := by
  unfold sndO sndG
  rw [if_neg h4, hb, hv]
  simp [hst]
 rw [ho]
 rw [hd2] at HH
 have HDf := fun W => Lib.hid (implDefOf_any p W)
 have HE := fun W (hW : RsIn vlL 2 W b l) => Lib.hid (show Calls Tryz.prog 50 #[.int .i64 p, .slice b l.length d] W (fun e w' => e = .returned (.string (sndT p l)) ∧ Below W.heap.size W w') from implEncode_any p b d l W hW hlen)
 have HS := fun fa W hW => Lib.hid (send_any x a1 a2 a3 a4 a5 c1 c2 c3 c4 c5 p l fa W hW hok hb hv hst)
 generalize sndG x p l = O at *
 generalize sndT p l = T at *
 obtain ⟨N, hN⟩ : ∃ N, l.length = N := ⟨_, rfl⟩
 rw [hN] at HFl HE ⊢
 clear ho h0 hok hs hc4 hl hlen h hb hv hst h4 hd2 hN
 unfold DefOut at HDf
 unfold NdOutNew ndOutV at *
 unfold ndV at *
 go_enter Tryz.func11, Tryz.ntmps11
 go_wp2_with (first
  | (refine wpList_box_h rfl 48 (.tmp 0) rfl #[.int .i64 x.c.n.u, .int .i64 x.c.n.m, .int .i64 x.c.n.i, .int .i64 x.c.n.f, .int .i64 x.c.n.c, .int .i64 x.c.n.s, .int .i64 x.c.n.y, .bool x.c.n.a, .int .i64 x.c.ad, .int .i64 x.c.st, .int .i64 x.c.lf, .slice a1 x.c.tk.length c1, .slice a2 x.q.length c2, .slice a3 x.t.length c3, .slice a4 x.d.length c4, .slice a5 x.g.length c5, .int .i64 x.s] rfl ?_; intro w1 R1 e1 g1 b1; have HL1 := Lib.hid (show Lg w w1 [(R1, (qH0 x a1 x.c.tk.length c1 a2 x.q.length c2 a3 x.t.length c3 a4 x.d.length c4 a5 x.g.length c5 x.s), 48)] [] from (Lg.first w).box e1 g1 b1); clear g1 b1 e1)
  | (refine wpList_alloc_h rfl 50 rfl (.agg #[.int .i64 0, .int .i64 0, .int .i64 0, .int .i64 0, .int .i64 0, .int .i64 0, .int .i64 0, .bool false, .int .i64 0, .int .i64 0, .int .i64 0, .slice none 0 0, .slice none 0 0, .slice none 0 0, .slice none 0 0, .slice none 0 0, .int .i64 0, .int .i64 0]) (by kernel_rfl) #[.int .i64 0, .int .i64 0, .int .i64 0, .int .i64 0, .int .i64 0, .int .i64 0, .int .i64 0, .bool false, .int .i64 0, .int .i64 0, .int .i64 0, .slice none 0 0, .slice none 0 0, .slice none 0 0, .slice none 0 0, .slice none 0 0, .int .i64 0, .int .i64 0] rfl ?_; intro w2 R2 e2 g2 b2; have qR2_R1 : R1 < R2 := Nat.lt_of_lt_of_eq (HL1.out.lt (.head _)) e2; have HL2 := Lib.hid (show Lg w w2 [(R2, (qH3), 50), (R1, (qH0 x a1 x.c.tk.length c1 a2 x.q.length c2 a3 x.t.length c3 a4 x.d.length c4 a5 x.g.length c5 x.s), 48)] [] from HL1.out.box e2 g2 b2); clear g2 b2 e2)
  | (refine wpList_load_at (by kernel_rfl) 48 (.tmp 3) rfl (R1) 0 rfl 48 (qH0 x a1 x.c.tk.length c1 a2 x.q.length c2 a3 x.t.length c3 a4 x.d.length c4 a5 x.g.length c5 x.s) (0, 0) (HL2.out.get qHm1) [.int .i64 x.c.n.u, .int .i64 x.c.n.m, .int .i64 x.c.n.i, .int .i64 x.c.n.f, .int .i64 x.c.n.c, .int .i64 x.c.n.s, .int .i64 x.c.n.y, .bool x.c.n.a, .int .i64 x.c.ad, .int .i64 x.c.st, .int .i64 x.c.lf, .slice a1 x.c.tk.length c1, .slice a2 x.q.length c2, .slice a3 x.t.length c3, .slice a4 x.d.length c4, .slice a5 x.g.length c5, .int .i64 x.s] rfl _ Tryz.underlying48 rfl (by kernel_rfl) ?_))
 refine ((HFl _ (HI.out.kept HL2.out.below) (HL.out.kept HL2.out.below)).out).mono ?_
 rintro e w3 ⟨rfl, h⟩
 have HL3 := Lib.hid (show Lg w w3 [(R2, (qH3), 50), (R1, (qH0 x a1 x.c.tk.length c1 a2 x.q.length c2 a3 x.t.length c3 a4 x.d.length c4 a5 x.g.length c5 x.s), 48)] [] from HL2.out.kept h)
 clear h
 go_wp2_with (first
  | (refine wpList_load_at (by kernel_rfl) 48 (.tmp 3) rfl (R1) 0 rfl 48 (qH0 x a1 x.c.tk.length c1 a2 x.q.length c2 a3 x.t.length c3 a4 x.d.length c4 a5 x.g.length c5 x.s) (0, 0) (HL3.out.get qHm1) [.int .i64 x.c.n.u, .int .i64 x.c.n.m, .int .i64 x.c.n.i, .int .i64 x.c.n.f, .int .i64 x.c.n.c, .int .i64 x.c.n.s, .int .i64 x.c.n.y, .bool x.c.n.a, .int .i64 x.c.ad, .int .i64 x.c.st, .int .i64 x.c.lf, .slice a1 x.c.tk.length c1, .slice a2 x.q.length c2, .slice a3 x.t.length c3, .slice a4 x.d.length c4, .slice a5 x.g.length c5, .int .i64 x.s] rfl _ Tryz.underlying48 rfl (by kernel_rfl) ?_))
 refine ((HAw _).out).mono ?_
 rintro e w4 ⟨rfl, h⟩
 have HL4 := Lib.hid (show Lg w w4 [(R2, (qH3), 50), (R1, (qH0 x a1 x.c.tk.length c1 a2 x.q.length c2 a3 x.t.length c3 a4 x.d.length c4 a5 x.g.length c5 x.s), 48)] [] from HL3.out.kept h)
 clear h
 go_wp2_with (first
  | (refine wpList_alloc_h rfl 104 rfl (.agg #[.int .i64 0, .int .i64 0, .int .i64 0, .int .i64 0, .int .i64 0, .int .i64 0, .int .i64 0, .bool false, .int .i64 0, .int .i64 0, .int .i64 0, .slice none 0 0, .slice none 0 0, .slice none 0 0, .slice none 0 0, .slice none 0 0, .int .i64 0]) (by kernel_rfl) #[.int .i64 0, .int .i64 0, .int .i64 0, .int .i64 0, .int .i64 0, .int .i64 0, .int .i64 0, .bool false, .int .i64 0, .int .i64 0, .int .i64 0, .slice none 0 0, .slice none 0 0, .slice none 0 0, .slice none 0 0, .slice none 0 0, .int .i64 0] rfl ?_; intro w5 R5 e5 g5 b5; have qR5_R2 : R2 < R5 := Nat.lt_of_lt_of_eq (HL4.out.lt (.head _)) e5; have qR5_R1 : R1 < R5 := Nat.lt_of_lt_of_eq (HL4.out.lt qHm1) e5; have HL5 := Lib.hid (show Lg w w5 [(R5, (qH1), 104), (R2, (qH3), 50), (R1, (qH0 x a1 x.c.tk.length c1 a2 x.q.length c2 a3 x.t.length c3 a4 x.d.length c4 a5 x.g.length c5 x.s), 48)] [] from HL4.out.box e5 g5 b5); clear g5 b5 e5)
  | (refine wpList_put_at rfl 104 (.tmp 8) (.tmp 18) rfl rfl (R5) 0 rfl _ rfl #[.int .i64 x.c.n.u, .int .i64 x.c.n.m, .int .i64 x.c.n.i, .int .i64 x.c.n.f, .int .i64 x.c.n.c, .int .i64 x.c.n.s, .int .i64 x.c.n.y, .bool x.c.n.a, .int .i64 x.c.ad, .int .i64 x.c.st, .int .i64 x.c.lf, .slice a1 x.c.tk.length c1, .slice a2 x.q.length c2, .slice a3 x.t.length c3, .slice a4 x.d.length c4, .slice a5 x.g.length c5, .int .i64 x.s] rfl 104 (qH1) (qH0 x a1 x.c.tk.length c1 a2 x.q.length c2 a3 x.t.length c3 a4 x.d.length c4 a5 x.g.length c5 x.s) (HL5.out.get (.head _)) (by kernel_rfl) (by kernel_rfl) (by kernel_rfl) (by kernel_rfl) ?_; intro w6 g6 o6; have HL6 := Lib.hid (show Lg w w6 [(R5, (qH0 x a1 x.c.tk.length c1 a2 x.q.length c2 a3 x.t.length c3 a4 x.d.length c4 a5 x.g.length c5 x.s), 104), (R2, (qH3), 50), (R1, (qH0 x a1 x.c.tk.length c1 a2 x.q.length c2 a3 x.t.length c3 a4 x.d.length c4 a5 x.g.length c5 x.s), 48)] [] from HL5.out.put 0 rfl g6 o6 (qHf ⟨Nat.ne_of_lt qR5_R2, (qHf ⟨Nat.ne_of_lt qR5_R1, (fun _ h => nomatch h)⟩)⟩) (fun _ h => nomatch h) rfl); clear g6 o6)
  | (refine wpList_load_at (by kernel_rfl) 40 (.tmp 19) rfl (R5) 0 rfl 104 (qH0 x a1 x.c.tk.length c1 a2 x.q.length c2 a3 x.t.length c3 a4 x.d.length c4 a5 x.g.length c5 x.s) (0, 0) (HL6.out.get (.head _)) [.int .i64 x.c.n.u, .int .i64 x.c.n.m, .int .i64 x.c.n.i, .int .i64 x.c.n.f, .int .i64 x.c.n.c, .int .i64 x.c.n.s, .int .i64 x.c.n.y, .bool x.c.n.a, .int .i64 x.c.ad, .int .i64 x.c.st, .int .i64 x.c.lf, .slice a1 x.c.tk.length c1] rfl _ Tryz.underlying40 rfl (by kernel_rfl) ?_))
 refine ((HH _).out).mono ?_
 rintro e w7 ⟨rfl, h⟩
 have HL7 := Lib.hid (show Lg w w7 [(R5, (qH0 x a1 x.c.tk.length c1 a2 x.q.length c2 a3 x.t.length c3 a4 x.d.length c4 a5 x.g.length c5 x.s), 104), (R2, (qH3), 50), (R1, (qH0 x a1 x.c.tk.length c1 a2 x.q.length c2 a3 x.t.length c3 a4 x.d.length c4 a5 x.g.length c5 x.s), 48)] [] from HL6.out.kept h)
 clear h
 go_wp2_with fail
 have HRc := Lib.hid (HL7.out.get (.head _))
 have HR2 := Lib.hid (HL7.out.get qHm1)
 have hRc : R5 < w7.heap.size := HL7.out.lt (.head _)
 have hR2 : R2 < w7.heap.size := HL7.out.lt qHm1
 have hR2w : w.heap.size ≤ R2 := HL7.out.ge qHm1
 have hne : R2 < R5 := qR5_R2
 have HBb := Lib.hid HL7.out.below
 have HRk := fun W (h : CN w7 R2 w7.heap.size O W) => Lib.hid ((h.out.block R5 hRc (.inr (by omega))).trans HRc.out)
 have HBw := fun W (h : CN w7 R2 w7.heap.size O W) => Lib.hid (h.out.below HBb.out hR2w HBb.out.size)
 refine wp_region_anyord (CN w7 R2 w7.heap.size O) (RN R2 w7.heap.size O) (TN R2 w7.heap.size O (.agg #[.int .i64 x.c.n.u, .int .i64 x.c.n.m, .int .i64 x.c.n.i, .int .i64 x.c.n.f, .int .i64 x.c.n.c, .int .i64 x.c.n.s, .int .i64 x.c.n.y, .bool x.c.n.a, .int .i64 x.c.ad, .int .i64 x.c.st, .int .i64 x.c.lf, .slice a1 x.c.tk.length c1, .slice a2 x.q.length c2, .slice a3 x.t.length c3, .slice a4 x.d.length c4, .slice a5 x.g.length c5, .int .i64 x.s]) (.slice b N d) p T) (by kernel_rfl) (by kernel_rfl) (by kernel_rfl) (TN.kept hR2) ?_ ?_ ?_
 ·exact ⟨⟨rfl, rfl, rfl, Nat.le_refl _, fun _ _ _ => rfl⟩, .inl HR2.out⟩
 ·refine ⟨⟨rfl, fun a_ W hC hK => ?_⟩, ⟨rfl, fun a_ W hC hK => ?_⟩, ⟨rfl, fun a_ W hC hK => ?_⟩, ⟨rfl, fun a_ W hC hK => ?_⟩, ⟨rfl, fun a_ W hC hK => ?_⟩, ⟨rfl, fun a_ W hC hK => ?_⟩, ⟨rfl, fun a_ W hC hK => ?_⟩, ⟨rfl, fun a_ W hC hK => ?_⟩, trivial⟩
  ·have e1 : a_.eval (.tmp 8) = .pointer (some ⟨R5, 0, none⟩) := (hK.old 8 (by kernel_rfl)).trans rfl
   exact wp_load_mid 104 (.tmp 8) rfl R5 0 e1 [.int .i64 x.c.n.u, .int .i64 x.c.n.m, .int .i64 x.c.n.i, .int .i64 x.c.n.f, .int .i64 x.c.n.c, .int .i64 x.c.n.s, .int .i64 x.c.n.y, .bool x.c.n.a, .int .i64 x.c.ad, .int .i64 x.c.st, .int .i64 x.c.lf, .slice a1 x.c.tk.length c1, .slice a2 x.q.length c2, .slice a3 x.t.length c3, .slice a4 x.d.length c4, .slice a5 x.g.length c5, .int .i64 x.s] _ (fun j v hv => (cell_of_row W R5 (0 + j) _ _ (0, 0) (HRk W hC).out).trans (sub17 rfl j v hv)) Tryz.underlying104 rfl (by kernel_rfl) ⟨_, rfl, hC, RN.refl, rfl⟩
  ·have e1 : a_.eval (.tmp 1) = .int .i64 p := (hK.old 1 (by kernel_rfl)).trans rfl
   simp only [Act.eval, Array.getD_eq_getD_getElem?] at e1
   exact ob_value (v := .int .i64 p) (w' := W) (by simp [execOp, go_sem, e1]) ⟨_, rfl, hC, RN.refl, rfl⟩
  ·have e1 : a_.eval (.tmp 25) = .int .i64 p := freeOf_get hK 1 25 (by kernel_rfl) rfl rfl rfl
   simp only [Act.eval, Array.getD_eq_getD_getElem?] at e1
   refine ob_call rfl Tryz.func49 (by kernel_rfl) (by kernel_rfl) (vals := #[.int .i64 p]) (by simp [Act.eval, e1]) ?_
   refine (HDf W).out.mono ?_
   rintro e W' ⟨fa, rfl, -, hb⟩
   exact ⟨_, rfl, _, rfl, hC.go hb hR2, hC.rs hb, fa, rfl⟩
  ·have e1 : a_.eval (.tmp 1) = .int .i64 p := (hK.old 1 (by kernel_rfl)).trans rfl
   simp only [Act.eval, Array.getD_eq_getD_getElem?] at e1
   exact ob_value (v := .int .i64 p) (w' := W) (by simp [execOp, go_sem, e1]) ⟨_, rfl, hC, RN.refl, rfl⟩
  ·have e1 : a_.eval (.tmp 2) = .slice b N d := (hK.old 2 (by kernel_rfl)).trans rfl
   simp only [Act.eval, Array.getD_eq_getD_getElem?] at e1
   exact ob_value (v := .slice b N d) (w' := W) (by simp [execOp, go_sem, e1]) ⟨_, rfl, hC, RN.refl, rfl⟩
  ·have e1 : a_.eval (.tmp 27) = .int .i64 p := freeOf_get hK 3 27 (by kernel_rfl) rfl rfl rfl
   have e2 : a_.eval (.tmp 28) = .slice b N d := freeOf_get hK 4 28 (by kernel_rfl) rfl rfl rfl
   simp only [Act.eval, Array.getD_eq_getD_getElem?] at e1 e2
   refine ob_call rfl Tryz.func50 (by kernel_rfl) (by kernel_rfl) (vals := #[.int .i64 p, .slice b N d]) (by simp [Act.eval, e1, e2]) ?_
   refine (HE W (HL.out.kept (HBw W hC).out)).out.mono ?_
   rintro e W' ⟨rfl, hb⟩
   exact ⟨_, rfl, _, rfl, hC.go hb hR2, hC.rs hb, rfl⟩
  ·have e1 : a_.eval (.tmp 24) = .agg #[.int .i64 x.c.n.u, .int .i64 x.c.n.m, .int .i64 x.c.n.i, .int .i64 x.c.n.f, .int .i64 x.c.n.c, .int .i64 x.c.n.s, .int .i64 x.c.n.y, .bool x.c.n.a, .int .i64 x.c.ad, .int .i64 x.c.st, .int .i64 x.c.lf, .slice a1 x.c.tk.length c1, .slice a2 x.q.length c2, .slice a3 x.t.length c3, .slice a4 x.d.length c4, .slice a5 x.g.length c5, .int .i64 x.s] := freeOf_get hK 0 24 (by kernel_rfl) rfl rfl rfl
   obtain ⟨fa, e2⟩ : TN R2 w7.heap.size O (.agg #[.int .i64 x.c.n.u, .int .i64 x.c.n.m, .int .i64 x.c.n.i, .int .i64 x.c.n.f, .int .i64 x.c.n.c, .int .i64 x.c.n.s, .int .i64 x.c.n.y, .bool x.c.n.a, .int .i64 x.c.ad, .int .i64 x.c.st, .int .i64 x.c.lf, .slice a1 x.c.tk.length c1, .slice a2 x.q.length c2, .slice a3 x.t.length c3, .slice a4 x.d.length c4, .slice a5 x.g.length c5, .int .i64 x.s]) (.slice b N d) p T 2 W (a_.eval (.tmp 26)) := freeOf_get hK 2 26 (by kernel_rfl) rfl rfl rfl
   have e3 : a_.eval (.tmp 29) = .string T := freeOf_get hK 5 29 (by kernel_rfl) rfl rfl rfl
   simp only [Act.eval, Array.getD_eq_getD_getElem?] at e1 e2 e3
   refine ob_call rfl Tryz.func48 (by kernel_rfl) (by kernel_rfl) (vals := #[.agg #[.int .i64 x.c.n.u, .int .i64 x.c.n.m, .int .i64 x.c.n.i, .int .i64 x.c.n.f, .int .i64 x.c.n.c, .int .i64 x.c.n.s, .int .i64 x.c.n.y, .bool x.c.n.a, .int .i64 x.c.ad, .int .i64 x.c.st, .int .i64 x.c.lf, .slice a1 x.c.tk.length c1, .slice a2 x.q.length c2, .slice a3 x.t.length c3, .slice a4 x.d.length c4, .slice a5 x.g.length c5, .int .i64 x.s], .agg #[.int .i64 (defD p).p, .int .i64 (defD p).s, .int .i64 (defD p).r, .slice fa (defD p).fs.length (defD p).fs.length], .string T]) (by simp [Act.eval, e1, e2, e3]) ?_
   refine (HS fa W (HI.out.kept (HBw W hC).out)).out.mono ?_
   rintro e W' ⟨y1, y2, y3, y4, y5, d1, d2, d3, d4, d5, rfl, hn, hb⟩
   exact ⟨_, rfl, _, rfl, hC.go hb hR2, hC.rs hb, y1, y2, y3, y4, y5, d1, d2, d3, d4, d5, rfl, hn.wide hC.out.size (Nat.le_refl _)⟩
  ·obtain ⟨y1, y2, y3, y4, y5, d1, d2, d3, d4, d5, e1, hn⟩ : TN R2 w7.heap.size O (.agg #[.int .i64 x.c.n.u, .int .i64 x.c.n.m, .int .i64 x.c.n.i, .int .i64 x.c.n.f, .int .i64 x.c.n.c, .int .i64 x.c.n.s, .int .i64 x.c.n.y, .bool x.c.n.a, .int .i64 x.c.ad, .int .i64 x.c.st, .int .i64 x.c.lf, .slice a1 x.c.tk.length c1, .slice a2 x.q.length c2, .slice a3 x.t.length c3, .slice a4 x.d.length c4, .slice a5 x.g.length c5, .int .i64 x.s]) (.slice b N d) p T 6 W (a_.eval (.tmp 30)) := freeOf_get hK 6 30 (by kernel_rfl) rfl rfl rfl
   have e2 : a_.eval (.tmp 6) = .pointer (some ⟨R2, 0, none⟩) := (hK.old 6 (by kernel_rfl)).trans rfl
   have hfin : ∀ w', w'.heap[R2]? = some (.cells #[.int .i64 O.1.c.n.u, .int .i64 O.1.c.n.m, .int .i64 O.1.c.n.i, .int .i64 O.1.c.n.f, .int .i64 O.1.c.n.c, .int .i64 O.1.c.n.s, .int .i64 O.1.c.n.y, .bool O.1.c.n.a, .int .i64 O.1.c.ad, .int .i64 O.1.c.st, .int .i64 O.1.c.lf, .slice y1 O.1.c.tk.length d1, .slice y2 O.1.q.length d2, .slice y3 O.1.t.length d3, .slice y4 O.1.d.length d4, .slice y5 O.1.g.length d5, .int .i64 O.1.s, .int .i64 O.2] 50 (0, 0)) → Out R2 (R2 + 1) W w' → ∃ v, a_.put none undef = a_.put none v ∧ CN w7 R2 w7.heap.size O w' ∧ RN R2 w7.heap.size O W w' ∧ TN R2 w7.heap.size O (.agg #[.int .i64 x.c.n.u, .int .i64 x.c.n.m, .int .i64 x.c.n.i, .int .i64 x.c.n.f, .int .i64 x.c.n.c, .int .i64 x.c.n.s, .int .i64 x.c.n.y, .bool x.c.n.a, .int .i64 x.c.ad, .int .i64 x.c.st, .int .i64 x.c.lf, .slice a1 x.c.tk.length c1, .slice a2 x.q.length c2, .slice a3 x.t.length c3, .slice a4 x.d.length c4, .slice a5 x.g.length c5, .int .i64 x.s]) (.slice b N d) p T 7 w' v := fun w' hg' ho => by
    have hF : FinN R2 w7.heap.size O w' := ⟨y1, y2, y3, y4, y5, d1, d2, d3, d4, d5, hg', ndnew_out hn ho hR2⟩
    exact ⟨undef, rfl, ⟨hC.out.trans ho, .inr hF⟩, ⟨ho, .inr hF⟩, hF⟩
   rcases hC.res with hq | ⟨_, _, _, _, _, _, _, _, _, _, hq, -⟩
   ·exact ob_put_row 50 (.tmp 6) (.tmp 30) rfl R2 e2 _ e1 _ rfl 50 _ _ hq (by kernel_rfl) (by kernel_rfl) (by kernel_rfl) (by kernel_rfl) hfin
   ·exact ob_put_row 50 (.tmp 6) (.tmp 30) rfl R2 e2 _ e1 _ rfl 50 _ _ hq (by kernel_rfl) (by kernel_rfl) (by kernel_rfl) (by kernel_rfl) hfin
 ·intro vs W hC hT
  obtain ⟨y1, y2, y3, y4, y5, d1, d2, d3, d4, d5, hq, hn⟩ : FinN R2 w7.heap.size O W := hT 7 (by decide)
  simp only [fillL, if_true, Act.put, List.setIfInBounds_toArray, List.set_cons_zero, List.set_cons_succ]
  have HF := Lib.hid hq
  have HBf := Lib.hid (hC.out.below HBb.out hR2w HBb.out.size)
  have HNw := Lib.hid (hn.wide HBb.out.size (Nat.le_refl _))
  clear hC hT hq hn
  go_wp2_with fail
  exact bodyPost_ret (results_cell_row (p := 6) (ty := 50) (by kernel_rfl) _ _ (R2) 50 _ (0, 0) _ rfl HF.out Tryz.underlying50 rfl (by kernel_rfl)) rfl ⟨y1, y2, y3, y4, y5, d1, d2, d3, d4, d5, rfl, HNw.out, HBf.out⟩
end Go.Proofs.YtioldepgoodipaaGreat
namespace Go.Proofs.YtioldepgoodipaaGreat
open Go.RowKit Go.ChangeShapes Go.WideShapes Go.ChangeAt Go.Joins
set_option linter.unusedVariables false
section
variable {H : Type} {enc : TypeId × Value → H} {w : World} {base : Nat} {spare : Nat → Bool} {held : Bool} {b0 : Nat} {r : Reach} {v : Value} {d : DataW H} {ps : List MemPlace}
def VlOk (x : Vl) : Prop := I64 x.k ∧ I64 x.v
def IsVls (w : World) (v : Value) : Prop := ∃ (a : Option Addr) (cap : Nat) (l : List Vl), v = .slice a l.length cap ∧ RsIn vlL 2 w a l ∧ (∀ x ∈ l, VlOk x) ∧ l.length ≤ maxLen
theorem cells_rowVl : Tryz.prog.cellsOf 101 = 2 := by kernel_rfl
theorem cells_intVl : Tryz.prog.cellsOf 2 = 1 := by kernel_rfl
theorem list_Vl {α : Type} {l : List α} (h : l.length = 2) : ∃ x0 x1, l = [x0, x1] := by
 match l, h with
 | [x0, x1], _ => exact ⟨x0, x1, rfl⟩
set_option maxRecDepth 100000 in
theorem Vl_of_trod {fuel : Nat} {cs : List Value} {x : DataW H × List MemPlace} (hl : cs.length = 2) (hf : DataW.trod enc Tryz.prog w base spare held fuel 101 cs = some x) :
  ∃ y : Vl, cs = vlL y ∧ VlOk y := by
 obtain ⟨c0, c1, rfl⟩ := list_Vl hl
 obtain ⟨xs, n, _, _, _, hlen, hall⟩ := DataW.trod_struct Tryz.underlying101 hf
 obtain ⟨y0, y1, rfl⟩ := list_Vl (by simpa using hlen)
 have h0 := hall 0 _ rfl
 have h1 := hall 1 _ rfl
 clear hall hf hlen
 obtain ⟨a0, e0, _, w0⟩ := DataW.trod_int Tryz.underlying2 h0
 obtain ⟨a1, e1, _, w1⟩ := DataW.trod_int Tryz.underlying2 h1
 simp [cells_intVl] at e0 e1
 subst e0 e1
 exact ⟨⟨a0, a1⟩, rfl, I64.of_wf w0, I64.of_wf w1⟩
set_option maxRecDepth 100000 in
theorem Vls_of_trod {fuel : Nat} {cs : List Value} {x : DataW H × List MemPlace} (hf : DataW.trod enc Tryz.prog w base spare held fuel 35 cs = some x) :
  ∃ (a : Option Addr) (cap : Nat) (l : List Vl), cs = [.slice a l.length cap] ∧ RsIn vlL 2 w a l ∧ (∀ x ∈ l, VlOk x) ∧ l.length ≤ maxLen := by
 rcases DataW.trod_slice Tryz.underlying35 hf with ⟨hcs, _⟩ | ⟨a', len', cap', elems, rest, n, _, hcs, _, hb, hl, hm, hlen, hel, _, _⟩
 ·subst hcs
  exact ⟨none, 0, [], rfl, .inl rfl, (by intro x hx; cases hx), by simp⟩
 ·subst hcs
  have each : ∀ i, i < len' → ∃ x : Vl, VlOk x ∧ a'.block < w.heap.size ∧ ∀ (j : Nat) v, (vlL x)[j]? = some v → w.cell? ((a'.add (i * 2)).add j) = some v := by
   intro i hi
   have := hel i hi
   rw [List.getElem?_eq_getElem (by omega), Option.bind_eq_some_iff, cells_rowVl] at this
   obtain ⟨cs', hcs, hy⟩ := this
   have hbk := World.cells?_block hcs (by omega)
   obtain ⟨_, hl2, hq⟩ := World.cells?_some hcs
   obtain ⟨x, rfl, hx⟩ := Vl_of_trod hl2 hy
   refine ⟨x, hx, ?_, fun j v hv => ?_⟩
   ·have : (a'.add (i * 2)).block = a'.block := by unfold Addr.add; split <;> rfl
    rwa [this] at hbk
   ·have hj := (List.getElem?_eq_some_iff.1 hv).1
    rw [hl2] at hj
    have := hq j hj
    rwa [hv] at this
  obtain ⟨l, hl, hp⟩ := list_of len' each
  subst hl
  refine ⟨some a', cap', l, rfl, ?_, ?_, by omega⟩
  ·rcases l with _ | ⟨x0, l⟩
   ·exact .inl rfl
   right
   have h0 := hp 0 x0 rfl
   obtain ⟨b, o, sp⟩ := a'
   have hsp : sp = none := by simpa [Addr.add] using World.cell?_spot (h0.2.2 0 _ rfl)
   subst hsp
   have hadd : ∀ b o i, (⟨b, o, none⟩ : Addr).add i = ⟨b, o + i, none⟩ := fun b o i => by unfold Addr.add; split <;> simp_all
   refine ⟨b, o, rfl, h0.2.1, fun i x hx j v hv => ?_⟩
   have := (hp i x hx).2.2 j v hv
   rwa [hadd, hadd] at this
  ·intro x hx
   obtain ⟨i, hi⟩ := List.getElem?_of_mem hx
   exact (hp i x hi).1
set_option maxRecDepth 100000 in
theorem open_Vls (hv : Value.okWide Tryz.prog w r b0 35 v) (h : DataW.Trod enc Tryz.prog w base spare held 35 v d ps) : IsVls w v := by
 obtain ⟨a, len, cap, rfl⟩ := okWide_slice Tryz.underlying35 hv
 obtain ⟨fuel, hf⟩ := h
 obtain ⟨a', cap', l, he, h1, h2, h3⟩ := Vls_of_trod hf
 simp [Value.cells] at he
 obtain ⟨rfl, rfl, rfl⟩ := he
 exact ⟨a, cap, l, rfl, h1, h2, h3⟩
end
end Go.Proofs.YtioldepgoodipaaGreat
