/- Of drawn Claims and Names: the program answers as the model does, a right Claim stays right; of two that claim one address who has the lesser name keeps it, and the other one goes; who has waited long enough holds it. For every two lists of bytes from which the inputs are drawn. -/
import Derived.Test.YtdhmcepnmbchkaaRows
import Derived.Test.YtdhmcepnmbchkaaDrawClaimN
import Derived.Test.YtdhmcepnmbchkaaDrawClaims
import Derived.Test.YtdhmcepnmbchkaaClaimLike
import Derived.Test.YtdhmcepnmbchkaaClaimWalk
import Derived.Test.YtdhmcepnmbchkaaClaimHear3
import Derived.Test.YtdhmcepnmbchkaaHearOwn2
import Derived.Test.YtdhmcepnmbchkaaClaimTick2
import Derived.Test.YtdhmcepnmbchkaaClaimCan
import Derived.Test.YtdhmcepnmbchkaaNameLess3
import Derived.Test.YtdhmcepnmbchkaaAnyOrdG
import Derived.WalkKit
import Derived.ProofKit
import Derived.OpenShut
import Derived.ShutString
import Derived.ChangeOld
import Derived.Below
namespace Go.Proofs.Ytdhmcepnmbchkaa.fnClaim
open Go.ChangeShapes Go.WideShapes Go.ChangeAt Go.RowKit
open Go.ChangeMaps (open_string shut_string)
set_option linter.unusedVariables false

theorem own : ownKnob Try.prog.godebug = none := by kernel_rfl
theorem laidOut : laidOutB Try.prog = true := by kernel_rfl

/-- WHAT THE WALK IS TOLD OF A SLICE OF INTEGERS THAT CAME IN: it is nil; or it leads to a row of 'cap' cells, the numbers 'zs' (the first 'len' are its elements, the rest its spare room), each fitting its kind. -/
def IsRow (k : IntKind) (w : World) (a : Option Addr) (len cap : Nat) (zs : List Int) : Prop :=
  (a = none ∧ len = 0 ∧ cap = 0 ∧ zs = []) ∨
  ∃ x, a = some x ∧ len ≤ cap ∧ cap ≤ maxLen ∧ zs.length = cap ∧ (∀ i, i < zs.length → w.cell? (x.add i) = some (.int k (zs.getD i 0))) ∧ ∀ n ∈ zs, (Lit.int k n).wf = true

set_option maxRecDepth 100000 in
set_option maxHeartbeats 100000000 in
theorem walk (a0 : Option Addr) (len0 cap0 : Nat) (z0 : List Int) (a1 : Option Addr) (len1 cap1 : Nat) (z1 : List Int) (w : World) (w0 : IsRow .u8 w a0 len0 cap0 z0) (w1 : IsRow .u8 w a1 len1 cap1 z1) :
    Calls Try.prog 3 #[.slice a0 len0 cap0, .slice a1 len1 cap1] w fun e w' => e = .returned (.bool true) ∧ Below w.heap.size w w' := by
  obtain ⟨r0, b0⟩ := rowIn_mk w0
  obtain ⟨r1, b1⟩ := rowIn_mk w1
  clear w0 w1
  by_cases hbig : 1048576 < len0
  · have hd : decide (1048576 < (len0 : Int)) = true := by simp; omega
    go_enter Try.func3, Try.ntmps3
    go_wp2_with fail
    go_ret
    exact ⟨rfl, Below.refl _ _⟩
  have hd0 : decide (1048576 < (len0 : Int)) = false := by simp; omega
  by_cases hbig1 : 1048576 < len1
  · have hd : decide (1048576 < (len1 : Int)) = true := by simp; omega
    go_enter Try.func3, Try.ntmps3
    go_wp2_with fail
    go_ret
    exact ⟨rfl, Below.refl _ _⟩
  have hd1 : decide (1048576 < (len1 : Int)) = false := by simp; omega
  have R0 := Lib.hid r0
  have B0 := Lib.hid b0
  have R1 := Lib.hid r1
  have B1 := Lib.hid b1
  have l0 : len0 ≤ 1048576 := by omega
  have l1 : len1 ≤ 1048576 := by omega
  clear r0 b0 r1 b1 hbig hbig1
  have KP0 : ∀ U, Below w.heap.size w U → Hid (RowIn U a0 len0 z0 ∧ (0 < len0 → ∀ b o, a0 = some ⟨b, o, none⟩ → b < U.heap.size)) := fun U h => Lib.hid ⟨R0.out.kept h B0.out, fun q b o e => Nat.lt_of_lt_of_le (B0.out q b o e) h.size⟩
  have KP1 : ∀ U, Below w.heap.size w U → Hid (RowIn U a1 len1 z1 ∧ (0 < len1 → ∀ b o, a1 = some ⟨b, o, none⟩ → b < U.heap.size)) := fun U h => Lib.hid ⟨R1.out.kept h B1.out, fun q b o e => Nat.lt_of_lt_of_le (B1.out q b o e) h.size⟩
  have T0 := Lib.hid (Below.refl w.heap.size w)
  have K0 := KP0 w T0.out
  go_enter Try.func3, Try.ntmps3
  go_wp2_with fail
  refine (drawClaimHear_any K0.out.1 l0 K0.out.2).mono ?_
  rintro e w1 ⟨⟨n0, n1, n2, n3, n4, n5, n6, n7⟩, ad, st, lf, b, c, l, src, ⟨m0, m1, m2, m3, m4, m5, m6, m7⟩, rfl, hl, hn, h⟩
  obtain ⟨L1, e1⟩ : ∃ x, w.heap.size = x := ⟨_, rfl⟩
  obtain ⟨H1, f1⟩ : ∃ x, w1.heap.size = x := ⟨_, rfl⟩
  have qH1_L1 : L1 ≤ H1 := (by rw [← e1, ← f1]; exact h.size)
  have HL1 := Lib.hid (show Lg w w1 [] [(L1, H1, fun W => NumsNew L1 H1 W b l)] from (Lg.first w).made e1 f1 h (by rw [← e1, ← f1]; exact hn.solid))
  unfold clV nmV
  dsimp only
  clear h hn e1 f1
  have hl7 : l.length ≤ 1048576 := by omega
  have HIH := fun W h => Lib.hid (implClaimHear_any ⟨n0, n1, n2, n3, n4, n5, n6, n7⟩ ⟨m0, m1, m2, m3, m4, m5, m6, m7⟩ ad st lf src b c l W h hl7)
  have HSH := fun W h => Lib.hid (specClaimHear_any ⟨n0, n1, n2, n3, n4, n5, n6, n7⟩ ⟨m0, m1, m2, m3, m4, m5, m6, m7⟩ ad st lf src b c l W h hl7)
  obtain ⟨⟨⟨d0, d1, d2, d3, d4, d5, d6, d7⟩, dad, dst, dlf, dl⟩, dS, dC, hD, hDl⟩ := hearO_len ⟨n0, n1, n2, n3, n4, n5, n6, n7⟩ ⟨m0, m1, m2, m3, m4, m5, m6, m7⟩ ad st lf src l hl7
  rw [hD] at HIH HSH
  unfold ClOut clOutV clV nmV at HIH HSH
  dsimp only at HIH HSH hDl
  have HD := Lib.hid hD
  clear hD hl7
  go_wp2_with (first
    | (refine wpList_alloc_h rfl 27 rfl (.agg #[.int .i64 0, .int .i64 0, .int .i64 0, .int .i64 0, .int .i64 0, .int .i64 0, .int .i64 0, .bool false, .int .i64 0, .int .i64 0, .int .i64 0, .slice none 0 0]) (by kernel_rfl) #[.int .i64 0, .int .i64 0, .int .i64 0, .int .i64 0, .int .i64 0, .int .i64 0, .int .i64 0, .bool false, .int .i64 0, .int .i64 0, .int .i64 0, .slice none 0 0] rfl ?_; intro w2 R2 e2 g2 b2; have qR2_H1 : H1 ≤ R2 := Nat.le_trans (HL1.out.hi (.head _)).2 (Nat.le_of_eq e2); have HL2 := Lib.hid (show Lg w w2 [(R2, #[.int .i64 0, .int .i64 0, .int .i64 0, .int .i64 0, .int .i64 0, .int .i64 0, .int .i64 0, .bool false, .int .i64 0, .int .i64 0, .int .i64 0, .slice none 0 0], 27)] [(L1, H1, fun W => NumsNew L1 H1 W b l)] from HL1.out.box e2 g2 b2); clear g2 b2 e2)
    | (refine wpList_alloc_h rfl 24 rfl (.agg #[.int .i64 0, .int .i64 0, .int .i64 0, .int .i64 0, .int .i64 0, .int .i64 0, .int .i64 0, .bool false]) (by kernel_rfl) #[.int .i64 0, .int .i64 0, .int .i64 0, .int .i64 0, .int .i64 0, .int .i64 0, .int .i64 0, .bool false] rfl ?_; intro w3 R3 e3 g3 b3; have qR3_R2 : R2 < R3 := Nat.lt_of_lt_of_eq (HL2.out.lt (.head _)) e3; have qR3_H1 : H1 ≤ R3 := Nat.le_trans (HL2.out.hi (.head _)).2 (Nat.le_of_eq e3); have HL3 := Lib.hid (show Lg w w3 [(R3, #[.int .i64 0, .int .i64 0, .int .i64 0, .int .i64 0, .int .i64 0, .int .i64 0, .int .i64 0, .bool false], 24), (R2, #[.int .i64 0, .int .i64 0, .int .i64 0, .int .i64 0, .int .i64 0, .int .i64 0, .int .i64 0, .bool false, .int .i64 0, .int .i64 0, .int .i64 0, .slice none 0 0], 27)] [(L1, H1, fun W => NumsNew L1 H1 W b l)] from HL2.out.box e3 g3 b3); clear g3 b3 e3)
    | (refine wpList_put_at rfl 27 (.tmp 5) (.tmp 26) rfl rfl (R2) 0 rfl (.agg #[.int .i64 n0, .int .i64 n1, .int .i64 n2, .int .i64 n3, .int .i64 n4, .int .i64 n5, .int .i64 n6, .bool n7, .int .i64 ad, .int .i64 st, .int .i64 lf, .slice b l.length c]) rfl #[.int .i64 n0, .int .i64 n1, .int .i64 n2, .int .i64 n3, .int .i64 n4, .int .i64 n5, .int .i64 n6, .bool n7, .int .i64 ad, .int .i64 st, .int .i64 lf, .slice b l.length c] rfl 27 #[.int .i64 0, .int .i64 0, .int .i64 0, .int .i64 0, .int .i64 0, .int .i64 0, .int .i64 0, .bool false, .int .i64 0, .int .i64 0, .int .i64 0, .slice none 0 0] #[.int .i64 n0, .int .i64 n1, .int .i64 n2, .int .i64 n3, .int .i64 n4, .int .i64 n5, .int .i64 n6, .bool n7, .int .i64 ad, .int .i64 st, .int .i64 lf, .slice b l.length c] (HL3.out.get (.tail _ (.head _))) (by kernel_rfl) (by kernel_rfl) (by kernel_rfl) (by kernel_rfl) ?_; intro w4 g4 o4; have HL4 := Lib.hid (show Lg w w4 [(R3, #[.int .i64 0, .int .i64 0, .int .i64 0, .int .i64 0, .int .i64 0, .int .i64 0, .int .i64 0, .bool false], 24), (R2, #[.int .i64 n0, .int .i64 n1, .int .i64 n2, .int .i64 n3, .int .i64 n4, .int .i64 n5, .int .i64 n6, .bool n7, .int .i64 ad, .int .i64 st, .int .i64 lf, .slice b l.length c], 27)] [(L1, H1, fun W => NumsNew L1 H1 W b l)] from HL3.out.put 1 rfl g4 o4 (List.forall_mem_cons.2 ⟨Nat.ne_of_gt qR3_R2, (fun _ h => nomatch h)⟩) (List.forall_mem_cons.2 ⟨.inl qR2_H1, (fun _ h => nomatch h)⟩) rfl); clear g4 o4)
    | (refine wpList_put_at rfl 24 (.tmp 7) (.tmp 28) rfl rfl (R3) 0 rfl (.agg #[.int .i64 m0, .int .i64 m1, .int .i64 m2, .int .i64 m3, .int .i64 m4, .int .i64 m5, .int .i64 m6, .bool m7]) rfl #[.int .i64 m0, .int .i64 m1, .int .i64 m2, .int .i64 m3, .int .i64 m4, .int .i64 m5, .int .i64 m6, .bool m7] rfl 24 #[.int .i64 0, .int .i64 0, .int .i64 0, .int .i64 0, .int .i64 0, .int .i64 0, .int .i64 0, .bool false] #[.int .i64 m0, .int .i64 m1, .int .i64 m2, .int .i64 m3, .int .i64 m4, .int .i64 m5, .int .i64 m6, .bool m7] (HL4.out.get (.head _)) (by kernel_rfl) (by kernel_rfl) (by kernel_rfl) (by kernel_rfl) ?_; intro w5 g5 o5; have HL5 := Lib.hid (show Lg w w5 [(R3, #[.int .i64 m0, .int .i64 m1, .int .i64 m2, .int .i64 m3, .int .i64 m4, .int .i64 m5, .int .i64 m6, .bool m7], 24), (R2, #[.int .i64 n0, .int .i64 n1, .int .i64 n2, .int .i64 n3, .int .i64 n4, .int .i64 n5, .int .i64 n6, .bool n7, .int .i64 ad, .int .i64 st, .int .i64 lf, .slice b l.length c], 27)] [(L1, H1, fun W => NumsNew L1 H1 W b l)] from HL4.out.put 0 rfl g5 o5 (List.forall_mem_cons.2 ⟨Nat.ne_of_lt qR3_R2, (fun _ h => nomatch h)⟩) (List.forall_mem_cons.2 ⟨.inl qR3_H1, (fun _ h => nomatch h)⟩) rfl); clear g5 o5)
    | (refine wpList_load_at rfl 27 (.tmp 5) rfl (R2) 0 rfl 27 #[.int .i64 n0, .int .i64 n1, .int .i64 n2, .int .i64 n3, .int .i64 n4, .int .i64 n5, .int .i64 n6, .bool n7, .int .i64 ad, .int .i64 st, .int .i64 lf, .slice b l.length c] (0, 0) (HL5.out.get (.tail _ (.head _))) [.int .i64 n0, .int .i64 n1, .int .i64 n2, .int .i64 n3, .int .i64 n4, .int .i64 n5, .int .i64 n6, .bool n7, .int .i64 ad, .int .i64 st, .int .i64 lf, .slice b l.length c] rfl _ Try.underlying27 rfl (by kernel_rfl) ?_)
    | (refine wpList_load_at rfl 24 (.tmp 7) rfl (R3) 0 rfl 24 #[.int .i64 m0, .int .i64 m1, .int .i64 m2, .int .i64 m3, .int .i64 m4, .int .i64 m5, .int .i64 m6, .bool m7] (0, 0) (HL5.out.get (.head _)) [.int .i64 m0, .int .i64 m1, .int .i64 m2, .int .i64 m3, .int .i64 m4, .int .i64 m5, .int .i64 m6, .bool m7] rfl _ Try.underlying24 rfl (by kernel_rfl) ?_))
  refine ((HIH _ (HL5.out.at (.head _)).nums).out).mono ?_
  rintro e w6 ⟨xa, xc, rfl, hn, h⟩
  obtain ⟨L6, e6⟩ : ∃ x, w5.heap.size = x := ⟨_, rfl⟩
  obtain ⟨H6, f6⟩ : ∃ x, w6.heap.size = x := ⟨_, rfl⟩
  have qL6_R3 : R3 < L6 := Nat.lt_of_lt_of_eq (HL5.out.lt (.head _)) e6
  have qL6_R2 : R2 < L6 := Nat.lt_of_lt_of_eq (HL5.out.lt (.tail _ (.head _))) e6
  have qL6_H1 : H1 ≤ L6 := Nat.le_trans (HL5.out.hi (.head _)).2 (Nat.le_of_eq e6)
  have qH6_L6 : L6 ≤ H6 := (by rw [← e6, ← f6]; exact h.size)
  have HL6 := Lib.hid (show Lg w w6 [(R3, #[.int .i64 m0, .int .i64 m1, .int .i64 m2, .int .i64 m3, .int .i64 m4, .int .i64 m5, .int .i64 m6, .bool m7], 24), (R2, #[.int .i64 n0, .int .i64 n1, .int .i64 n2, .int .i64 n3, .int .i64 n4, .int .i64 n5, .int .i64 n6, .bool n7, .int .i64 ad, .int .i64 st, .int .i64 lf, .slice b l.length c], 27)] [(L6, H6, fun W => NumsNew L6 H6 W xa dl), (L1, H1, fun W => NumsNew L1 H1 W b l)] from HL5.out.made e6 f6 h (by rw [← e6, ← f6]; exact hn.solid))
  clear h hn e6 f6
  go_wp2_with (first
    | (refine wpList_alloc_h rfl 31 rfl (.agg #[.int .i64 0, .int .i64 0, .int .i64 0, .int .i64 0, .int .i64 0, .int .i64 0, .int .i64 0, .bool false, .int .i64 0, .int .i64 0, .int .i64 0, .slice none 0 0, .bool false, .int .i64 0]) (by kernel_rfl) #[.int .i64 0, .int .i64 0, .int .i64 0, .int .i64 0, .int .i64 0, .int .i64 0, .int .i64 0, .bool false, .int .i64 0, .int .i64 0, .int .i64 0, .slice none 0 0, .bool false, .int .i64 0] rfl ?_; intro w7 R7 e7 g7 b7; have qR7_R3 : R3 < R7 := Nat.lt_of_lt_of_eq (HL6.out.lt (.head _)) e7; have qR7_R2 : R2 < R7 := Nat.lt_of_lt_of_eq (HL6.out.lt (.tail _ (.head _))) e7; have qR7_H6 : H6 ≤ R7 := Nat.le_trans (HL6.out.hi (.head _)).2 (Nat.le_of_eq e7); have qR7_H1 : H1 ≤ R7 := Nat.le_trans (HL6.out.hi (.tail _ (.head _))).2 (Nat.le_of_eq e7); have HL7 := Lib.hid (show Lg w w7 [(R7, #[.int .i64 0, .int .i64 0, .int .i64 0, .int .i64 0, .int .i64 0, .int .i64 0, .int .i64 0, .bool false, .int .i64 0, .int .i64 0, .int .i64 0, .slice none 0 0, .bool false, .int .i64 0], 31), (R3, #[.int .i64 m0, .int .i64 m1, .int .i64 m2, .int .i64 m3, .int .i64 m4, .int .i64 m5, .int .i64 m6, .bool m7], 24), (R2, #[.int .i64 n0, .int .i64 n1, .int .i64 n2, .int .i64 n3, .int .i64 n4, .int .i64 n5, .int .i64 n6, .bool n7, .int .i64 ad, .int .i64 st, .int .i64 lf, .slice b l.length c], 27)] [(L6, H6, fun W => NumsNew L6 H6 W xa dl), (L1, H1, fun W => NumsNew L1 H1 W b l)] from HL6.out.box e7 g7 b7); clear g7 b7 e7)
    | (refine wpList_put_at rfl 31 (.tmp 8) (.tmp 32) rfl rfl (R7) 0 rfl (.agg #[.int .i64 d0, .int .i64 d1, .int .i64 d2, .int .i64 d3, .int .i64 d4, .int .i64 d5, .int .i64 d6, .bool d7, .int .i64 dad, .int .i64 dst, .int .i64 dlf, .slice xa dl.length xc, .bool dS, .int .i64 dC]) rfl #[.int .i64 d0, .int .i64 d1, .int .i64 d2, .int .i64 d3, .int .i64 d4, .int .i64 d5, .int .i64 d6, .bool d7, .int .i64 dad, .int .i64 dst, .int .i64 dlf, .slice xa dl.length xc, .bool dS, .int .i64 dC] rfl 31 #[.int .i64 0, .int .i64 0, .int .i64 0, .int .i64 0, .int .i64 0, .int .i64 0, .int .i64 0, .bool false, .int .i64 0, .int .i64 0, .int .i64 0, .slice none 0 0, .bool false, .int .i64 0] #[.int .i64 d0, .int .i64 d1, .int .i64 d2, .int .i64 d3, .int .i64 d4, .int .i64 d5, .int .i64 d6, .bool d7, .int .i64 dad, .int .i64 dst, .int .i64 dlf, .slice xa dl.length xc, .bool dS, .int .i64 dC] (HL7.out.get (.head _)) (by kernel_rfl) (by kernel_rfl) (by kernel_rfl) (by kernel_rfl) ?_; intro w8 g8 o8; have HL8 := Lib.hid (show Lg w w8 [(R7, #[.int .i64 d0, .int .i64 d1, .int .i64 d2, .int .i64 d3, .int .i64 d4, .int .i64 d5, .int .i64 d6, .bool d7, .int .i64 dad, .int .i64 dst, .int .i64 dlf, .slice xa dl.length xc, .bool dS, .int .i64 dC], 31), (R3, #[.int .i64 m0, .int .i64 m1, .int .i64 m2, .int .i64 m3, .int .i64 m4, .int .i64 m5, .int .i64 m6, .bool m7], 24), (R2, #[.int .i64 n0, .int .i64 n1, .int .i64 n2, .int .i64 n3, .int .i64 n4, .int .i64 n5, .int .i64 n6, .bool n7, .int .i64 ad, .int .i64 st, .int .i64 lf, .slice b l.length c], 27)] [(L6, H6, fun W => NumsNew L6 H6 W xa dl), (L1, H1, fun W => NumsNew L1 H1 W b l)] from HL7.out.put 0 rfl g8 o8 (List.forall_mem_cons.2 ⟨Nat.ne_of_lt qR7_R3, (List.forall_mem_cons.2 ⟨Nat.ne_of_lt qR7_R2, (fun _ h => nomatch h)⟩)⟩) (List.forall_mem_cons.2 ⟨.inl qR7_H6, (List.forall_mem_cons.2 ⟨.inl qR7_H1, (fun _ h => nomatch h)⟩)⟩) rfl); clear g8 o8))
  refine (drawClaimNew_any (KP1 _ HL8.out.below).out.1 l1 (KP1 _ HL8.out.below).out.2).mono ?_
  rintro e w9 ⟨⟨p0, p1, p2, p3, p4, p5, p6, p7⟩, want, rfl, h⟩
  have HL9 := Lib.hid (show Lg w w9 [(R7, #[.int .i64 d0, .int .i64 d1, .int .i64 d2, .int .i64 d3, .int .i64 d4, .int .i64 d5, .int .i64 d6, .bool d7, .int .i64 dad, .int .i64 dst, .int .i64 dlf, .slice xa dl.length xc, .bool dS, .int .i64 dC], 31), (R3, #[.int .i64 m0, .int .i64 m1, .int .i64 m2, .int .i64 m3, .int .i64 m4, .int .i64 m5, .int .i64 m6, .bool m7], 24), (R2, #[.int .i64 n0, .int .i64 n1, .int .i64 n2, .int .i64 n3, .int .i64 n4, .int .i64 n5, .int .i64 n6, .bool n7, .int .i64 ad, .int .i64 st, .int .i64 lf, .slice b l.length c], 27)] [(L6, H6, fun W => NumsNew L6 H6 W xa dl), (L1, H1, fun W => NumsNew L1 H1 W b l)] from HL8.out.kept h)
  unfold nmV
  dsimp only
  clear h
  go_wp2_with (first
    | (refine wpList_alloc_h rfl 24 rfl (.agg #[.int .i64 0, .int .i64 0, .int .i64 0, .int .i64 0, .int .i64 0, .int .i64 0, .int .i64 0, .bool false]) (by kernel_rfl) #[.int .i64 0, .int .i64 0, .int .i64 0, .int .i64 0, .int .i64 0, .int .i64 0, .int .i64 0, .bool false] rfl ?_; intro w10 R10 e10 g10 b10; have qR10_R7 : R7 < R10 := Nat.lt_of_lt_of_eq (HL9.out.lt (.head _)) e10; have qR10_R3 : R3 < R10 := Nat.lt_of_lt_of_eq (HL9.out.lt (.tail _ (.head _))) e10; have qR10_R2 : R2 < R10 := Nat.lt_of_lt_of_eq (HL9.out.lt (.tail _ (.tail _ (.head _)))) e10; have qR10_H6 : H6 ≤ R10 := Nat.le_trans (HL9.out.hi (.head _)).2 (Nat.le_of_eq e10); have qR10_H1 : H1 ≤ R10 := Nat.le_trans (HL9.out.hi (.tail _ (.head _))).2 (Nat.le_of_eq e10); have HL10 := Lib.hid (show Lg w w10 [(R10, #[.int .i64 0, .int .i64 0, .int .i64 0, .int .i64 0, .int .i64 0, .int .i64 0, .int .i64 0, .bool false], 24), (R7, #[.int .i64 d0, .int .i64 d1, .int .i64 d2, .int .i64 d3, .int .i64 d4, .int .i64 d5, .int .i64 d6, .bool d7, .int .i64 dad, .int .i64 dst, .int .i64 dlf, .slice xa dl.length xc, .bool dS, .int .i64 dC], 31), (R3, #[.int .i64 m0, .int .i64 m1, .int .i64 m2, .int .i64 m3, .int .i64 m4, .int .i64 m5, .int .i64 m6, .bool m7], 24), (R2, #[.int .i64 n0, .int .i64 n1, .int .i64 n2, .int .i64 n3, .int .i64 n4, .int .i64 n5, .int .i64 n6, .bool n7, .int .i64 ad, .int .i64 st, .int .i64 lf, .slice b l.length c], 27)] [(L6, H6, fun W => NumsNew L6 H6 W xa dl), (L1, H1, fun W => NumsNew L1 H1 W b l)] from HL9.out.box e10 g10 b10); clear g10 b10 e10)
    | (refine wpList_put_at rfl 24 (.tmp 9) (.tmp 36) rfl rfl (R10) 0 rfl (.agg #[.int .i64 p0, .int .i64 p1, .int .i64 p2, .int .i64 p3, .int .i64 p4, .int .i64 p5, .int .i64 p6, .bool p7]) rfl #[.int .i64 p0, .int .i64 p1, .int .i64 p2, .int .i64 p3, .int .i64 p4, .int .i64 p5, .int .i64 p6, .bool p7] rfl 24 #[.int .i64 0, .int .i64 0, .int .i64 0, .int .i64 0, .int .i64 0, .int .i64 0, .int .i64 0, .bool false] #[.int .i64 p0, .int .i64 p1, .int .i64 p2, .int .i64 p3, .int .i64 p4, .int .i64 p5, .int .i64 p6, .bool p7] (HL10.out.get (.head _)) (by kernel_rfl) (by kernel_rfl) (by kernel_rfl) (by kernel_rfl) ?_; intro w11 g11 o11; have HL11 := Lib.hid (show Lg w w11 [(R10, #[.int .i64 p0, .int .i64 p1, .int .i64 p2, .int .i64 p3, .int .i64 p4, .int .i64 p5, .int .i64 p6, .bool p7], 24), (R7, #[.int .i64 d0, .int .i64 d1, .int .i64 d2, .int .i64 d3, .int .i64 d4, .int .i64 d5, .int .i64 d6, .bool d7, .int .i64 dad, .int .i64 dst, .int .i64 dlf, .slice xa dl.length xc, .bool dS, .int .i64 dC], 31), (R3, #[.int .i64 m0, .int .i64 m1, .int .i64 m2, .int .i64 m3, .int .i64 m4, .int .i64 m5, .int .i64 m6, .bool m7], 24), (R2, #[.int .i64 n0, .int .i64 n1, .int .i64 n2, .int .i64 n3, .int .i64 n4, .int .i64 n5, .int .i64 n6, .bool n7, .int .i64 ad, .int .i64 st, .int .i64 lf, .slice b l.length c], 27)] [(L6, H6, fun W => NumsNew L6 H6 W xa dl), (L1, H1, fun W => NumsNew L1 H1 W b l)] from HL10.out.put 0 rfl g11 o11 (List.forall_mem_cons.2 ⟨Nat.ne_of_lt qR10_R7, (List.forall_mem_cons.2 ⟨Nat.ne_of_lt qR10_R3, (List.forall_mem_cons.2 ⟨Nat.ne_of_lt qR10_R2, (fun _ h => nomatch h)⟩)⟩)⟩) (List.forall_mem_cons.2 ⟨.inl qR10_H6, (List.forall_mem_cons.2 ⟨.inl qR10_H1, (fun _ h => nomatch h)⟩)⟩) rfl); clear g11 o11))
  refine (drawClaimTick_any (KP1 _ HL11.out.below).out.1 l1 (KP1 _ HL11.out.below).out.2).mono ?_
  rintro e w12 ⟨⟨q0, q1, q2, q3, q4, q5, q6, q7⟩, qad, qst, qlf, qb, qc, ql, rfl, hql, hn, h⟩
  obtain ⟨L12, e12⟩ : ∃ x, w11.heap.size = x := ⟨_, rfl⟩
  obtain ⟨H12, f12⟩ : ∃ x, w12.heap.size = x := ⟨_, rfl⟩
  have qL12_R10 : R10 < L12 := Nat.lt_of_lt_of_eq (HL11.out.lt (.head _)) e12
  have qL12_R7 : R7 < L12 := Nat.lt_of_lt_of_eq (HL11.out.lt (.tail _ (.head _))) e12
  have qL12_R3 : R3 < L12 := Nat.lt_of_lt_of_eq (HL11.out.lt (.tail _ (.tail _ (.head _)))) e12
  have qL12_R2 : R2 < L12 := Nat.lt_of_lt_of_eq (HL11.out.lt (.tail _ (.tail _ (.tail _ (.head _))))) e12
  have qL12_H6 : H6 ≤ L12 := Nat.le_trans (HL11.out.hi (.head _)).2 (Nat.le_of_eq e12)
  have qL12_H1 : H1 ≤ L12 := Nat.le_trans (HL11.out.hi (.tail _ (.head _))).2 (Nat.le_of_eq e12)
  have qH12_L12 : L12 ≤ H12 := (by rw [← e12, ← f12]; exact h.size)
  have HL12 := Lib.hid (show Lg w w12 [(R10, #[.int .i64 p0, .int .i64 p1, .int .i64 p2, .int .i64 p3, .int .i64 p4, .int .i64 p5, .int .i64 p6, .bool p7], 24), (R7, #[.int .i64 d0, .int .i64 d1, .int .i64 d2, .int .i64 d3, .int .i64 d4, .int .i64 d5, .int .i64 d6, .bool d7, .int .i64 dad, .int .i64 dst, .int .i64 dlf, .slice xa dl.length xc, .bool dS, .int .i64 dC], 31), (R3, #[.int .i64 m0, .int .i64 m1, .int .i64 m2, .int .i64 m3, .int .i64 m4, .int .i64 m5, .int .i64 m6, .bool m7], 24), (R2, #[.int .i64 n0, .int .i64 n1, .int .i64 n2, .int .i64 n3, .int .i64 n4, .int .i64 n5, .int .i64 n6, .bool n7, .int .i64 ad, .int .i64 st, .int .i64 lf, .slice b l.length c], 27)] [(L12, H12, fun W => NumsNew L12 H12 W qb ql), (L6, H6, fun W => NumsNew L6 H6 W xa dl), (L1, H1, fun W => NumsNew L1 H1 W b l)] from HL11.out.made e12 f12 h (by rw [← e12, ← f12]; exact hn.solid))
  unfold clV
  dsimp only
  clear h hn e12 f12
  go_wp2_with (first
    | (refine wpList_alloc_h rfl 27 rfl (.agg #[.int .i64 0, .int .i64 0, .int .i64 0, .int .i64 0, .int .i64 0, .int .i64 0, .int .i64 0, .bool false, .int .i64 0, .int .i64 0, .int .i64 0, .slice none 0 0]) (by kernel_rfl) #[.int .i64 0, .int .i64 0, .int .i64 0, .int .i64 0, .int .i64 0, .int .i64 0, .int .i64 0, .bool false, .int .i64 0, .int .i64 0, .int .i64 0, .slice none 0 0] rfl ?_; intro w13 R13 e13 g13 b13; have qR13_R10 : R10 < R13 := Nat.lt_of_lt_of_eq (HL12.out.lt (.head _)) e13; have qR13_R7 : R7 < R13 := Nat.lt_of_lt_of_eq (HL12.out.lt (.tail _ (.head _))) e13; have qR13_R3 : R3 < R13 := Nat.lt_of_lt_of_eq (HL12.out.lt (.tail _ (.tail _ (.head _)))) e13; have qR13_R2 : R2 < R13 := Nat.lt_of_lt_of_eq (HL12.out.lt (.tail _ (.tail _ (.tail _ (.head _))))) e13; have qR13_H12 : H12 ≤ R13 := Nat.le_trans (HL12.out.hi (.head _)).2 (Nat.le_of_eq e13); have qR13_H6 : H6 ≤ R13 := Nat.le_trans (HL12.out.hi (.tail _ (.head _))).2 (Nat.le_of_eq e13); have qR13_H1 : H1 ≤ R13 := Nat.le_trans (HL12.out.hi (.tail _ (.tail _ (.head _)))).2 (Nat.le_of_eq e13); have HL13 := Lib.hid (show Lg w w13 [(R13, #[.int .i64 0, .int .i64 0, .int .i64 0, .int .i64 0, .int .i64 0, .int .i64 0, .int .i64 0, .bool false, .int .i64 0, .int .i64 0, .int .i64 0, .slice none 0 0], 27), (R10, #[.int .i64 p0, .int .i64 p1, .int .i64 p2, .int .i64 p3, .int .i64 p4, .int .i64 p5, .int .i64 p6, .bool p7], 24), (R7, #[.int .i64 d0, .int .i64 d1, .int .i64 d2, .int .i64 d3, .int .i64 d4, .int .i64 d5, .int .i64 d6, .bool d7, .int .i64 dad, .int .i64 dst, .int .i64 dlf, .slice xa dl.length xc, .bool dS, .int .i64 dC], 31), (R3, #[.int .i64 m0, .int .i64 m1, .int .i64 m2, .int .i64 m3, .int .i64 m4, .int .i64 m5, .int .i64 m6, .bool m7], 24), (R2, #[.int .i64 n0, .int .i64 n1, .int .i64 n2, .int .i64 n3, .int .i64 n4, .int .i64 n5, .int .i64 n6, .bool n7, .int .i64 ad, .int .i64 st, .int .i64 lf, .slice b l.length c], 27)] [(L12, H12, fun W => NumsNew L12 H12 W qb ql), (L6, H6, fun W => NumsNew L6 H6 W xa dl), (L1, H1, fun W => NumsNew L1 H1 W b l)] from HL12.out.box e13 g13 b13); clear g13 b13 e13)
    | (refine wpList_put_at rfl 27 (.tmp 11) (.tmp 39) rfl rfl (R13) 0 rfl (.agg #[.int .i64 q0, .int .i64 q1, .int .i64 q2, .int .i64 q3, .int .i64 q4, .int .i64 q5, .int .i64 q6, .bool q7, .int .i64 qad, .int .i64 qst, .int .i64 qlf, .slice qb ql.length qc]) rfl #[.int .i64 q0, .int .i64 q1, .int .i64 q2, .int .i64 q3, .int .i64 q4, .int .i64 q5, .int .i64 q6, .bool q7, .int .i64 qad, .int .i64 qst, .int .i64 qlf, .slice qb ql.length qc] rfl 27 #[.int .i64 0, .int .i64 0, .int .i64 0, .int .i64 0, .int .i64 0, .int .i64 0, .int .i64 0, .bool false, .int .i64 0, .int .i64 0, .int .i64 0, .slice none 0 0] #[.int .i64 q0, .int .i64 q1, .int .i64 q2, .int .i64 q3, .int .i64 q4, .int .i64 q5, .int .i64 q6, .bool q7, .int .i64 qad, .int .i64 qst, .int .i64 qlf, .slice qb ql.length qc] (HL13.out.get (.head _)) (by kernel_rfl) (by kernel_rfl) (by kernel_rfl) (by kernel_rfl) ?_; intro w14 g14 o14; have HL14 := Lib.hid (show Lg w w14 [(R13, #[.int .i64 q0, .int .i64 q1, .int .i64 q2, .int .i64 q3, .int .i64 q4, .int .i64 q5, .int .i64 q6, .bool q7, .int .i64 qad, .int .i64 qst, .int .i64 qlf, .slice qb ql.length qc], 27), (R10, #[.int .i64 p0, .int .i64 p1, .int .i64 p2, .int .i64 p3, .int .i64 p4, .int .i64 p5, .int .i64 p6, .bool p7], 24), (R7, #[.int .i64 d0, .int .i64 d1, .int .i64 d2, .int .i64 d3, .int .i64 d4, .int .i64 d5, .int .i64 d6, .bool d7, .int .i64 dad, .int .i64 dst, .int .i64 dlf, .slice xa dl.length xc, .bool dS, .int .i64 dC], 31), (R3, #[.int .i64 m0, .int .i64 m1, .int .i64 m2, .int .i64 m3, .int .i64 m4, .int .i64 m5, .int .i64 m6, .bool m7], 24), (R2, #[.int .i64 n0, .int .i64 n1, .int .i64 n2, .int .i64 n3, .int .i64 n4, .int .i64 n5, .int .i64 n6, .bool n7, .int .i64 ad, .int .i64 st, .int .i64 lf, .slice b l.length c], 27)] [(L12, H12, fun W => NumsNew L12 H12 W qb ql), (L6, H6, fun W => NumsNew L6 H6 W xa dl), (L1, H1, fun W => NumsNew L1 H1 W b l)] from HL13.out.put 0 rfl g14 o14 (List.forall_mem_cons.2 ⟨Nat.ne_of_lt qR13_R10, (List.forall_mem_cons.2 ⟨Nat.ne_of_lt qR13_R7, (List.forall_mem_cons.2 ⟨Nat.ne_of_lt qR13_R3, (List.forall_mem_cons.2 ⟨Nat.ne_of_lt qR13_R2, (fun _ h => nomatch h)⟩)⟩)⟩)⟩) (List.forall_mem_cons.2 ⟨.inl qR13_H12, (List.forall_mem_cons.2 ⟨.inl qR13_H6, (List.forall_mem_cons.2 ⟨.inl qR13_H1, (fun _ h => nomatch h)⟩)⟩)⟩) rfl); clear g14 o14))
  refine (drawClaimCan_any (KP0 _ HL14.out.below).out.1 l0 (KP0 _ HL14.out.below).out.2).mono ?_
  rintro e w15 ⟨⟨r0, r1, r2, r3, r4, r5, r6, r7⟩, rad, rst, rlf, rb, rc, rl, rfl, hrl, hn, h⟩
  obtain ⟨L15, e15⟩ : ∃ x, w14.heap.size = x := ⟨_, rfl⟩
  obtain ⟨H15, f15⟩ : ∃ x, w15.heap.size = x := ⟨_, rfl⟩
  have qL15_R13 : R13 < L15 := Nat.lt_of_lt_of_eq (HL14.out.lt (.head _)) e15
  have qL15_R10 : R10 < L15 := Nat.lt_of_lt_of_eq (HL14.out.lt (.tail _ (.head _))) e15
  have qL15_R7 : R7 < L15 := Nat.lt_of_lt_of_eq (HL14.out.lt (.tail _ (.tail _ (.head _)))) e15
  have qL15_R3 : R3 < L15 := Nat.lt_of_lt_of_eq (HL14.out.lt (.tail _ (.tail _ (.tail _ (.head _))))) e15
  have qL15_R2 : R2 < L15 := Nat.lt_of_lt_of_eq (HL14.out.lt (.tail _ (.tail _ (.tail _ (.tail _ (.head _)))))) e15
  have qL15_H12 : H12 ≤ L15 := Nat.le_trans (HL14.out.hi (.head _)).2 (Nat.le_of_eq e15)
  have qL15_H6 : H6 ≤ L15 := Nat.le_trans (HL14.out.hi (.tail _ (.head _))).2 (Nat.le_of_eq e15)
  have qL15_H1 : H1 ≤ L15 := Nat.le_trans (HL14.out.hi (.tail _ (.tail _ (.head _)))).2 (Nat.le_of_eq e15)
  have qH15_L15 : L15 ≤ H15 := (by rw [← e15, ← f15]; exact h.size)
  have HL15 := Lib.hid (show Lg w w15 [(R13, #[.int .i64 q0, .int .i64 q1, .int .i64 q2, .int .i64 q3, .int .i64 q4, .int .i64 q5, .int .i64 q6, .bool q7, .int .i64 qad, .int .i64 qst, .int .i64 qlf, .slice qb ql.length qc], 27), (R10, #[.int .i64 p0, .int .i64 p1, .int .i64 p2, .int .i64 p3, .int .i64 p4, .int .i64 p5, .int .i64 p6, .bool p7], 24), (R7, #[.int .i64 d0, .int .i64 d1, .int .i64 d2, .int .i64 d3, .int .i64 d4, .int .i64 d5, .int .i64 d6, .bool d7, .int .i64 dad, .int .i64 dst, .int .i64 dlf, .slice xa dl.length xc, .bool dS, .int .i64 dC], 31), (R3, #[.int .i64 m0, .int .i64 m1, .int .i64 m2, .int .i64 m3, .int .i64 m4, .int .i64 m5, .int .i64 m6, .bool m7], 24), (R2, #[.int .i64 n0, .int .i64 n1, .int .i64 n2, .int .i64 n3, .int .i64 n4, .int .i64 n5, .int .i64 n6, .bool n7, .int .i64 ad, .int .i64 st, .int .i64 lf, .slice b l.length c], 27)] [(L15, H15, fun W => NumsNew L15 H15 W rb rl), (L12, H12, fun W => NumsNew L12 H12 W qb ql), (L6, H6, fun W => NumsNew L6 H6 W xa dl), (L1, H1, fun W => NumsNew L1 H1 W b l)] from HL14.out.made e15 f15 h (by rw [← e15, ← f15]; exact hn.solid))
  unfold clV
  dsimp only
  clear h hn e15 f15
  go_wp2_with (first
    | (refine wpList_alloc_h rfl 27 rfl (.agg #[.int .i64 0, .int .i64 0, .int .i64 0, .int .i64 0, .int .i64 0, .int .i64 0, .int .i64 0, .bool false, .int .i64 0, .int .i64 0, .int .i64 0, .slice none 0 0]) (by kernel_rfl) #[.int .i64 0, .int .i64 0, .int .i64 0, .int .i64 0, .int .i64 0, .int .i64 0, .int .i64 0, .bool false, .int .i64 0, .int .i64 0, .int .i64 0, .slice none 0 0] rfl ?_; intro w16 R16 e16 g16 b16; have qR16_R13 : R13 < R16 := Nat.lt_of_lt_of_eq (HL15.out.lt (.head _)) e16; have qR16_R10 : R10 < R16 := Nat.lt_of_lt_of_eq (HL15.out.lt (.tail _ (.head _))) e16; have qR16_R7 : R7 < R16 := Nat.lt_of_lt_of_eq (HL15.out.lt (.tail _ (.tail _ (.head _)))) e16; have qR16_R3 : R3 < R16 := Nat.lt_of_lt_of_eq (HL15.out.lt (.tail _ (.tail _ (.tail _ (.head _))))) e16; have qR16_R2 : R2 < R16 := Nat.lt_of_lt_of_eq (HL15.out.lt (.tail _ (.tail _ (.tail _ (.tail _ (.head _)))))) e16; have qR16_H15 : H15 ≤ R16 := Nat.le_trans (HL15.out.hi (.head _)).2 (Nat.le_of_eq e16); have qR16_H12 : H12 ≤ R16 := Nat.le_trans (HL15.out.hi (.tail _ (.head _))).2 (Nat.le_of_eq e16); have qR16_H6 : H6 ≤ R16 := Nat.le_trans (HL15.out.hi (.tail _ (.tail _ (.head _)))).2 (Nat.le_of_eq e16); have qR16_H1 : H1 ≤ R16 := Nat.le_trans (HL15.out.hi (.tail _ (.tail _ (.tail _ (.head _))))).2 (Nat.le_of_eq e16); have HL16 := Lib.hid (show Lg w w16 [(R16, #[.int .i64 0, .int .i64 0, .int .i64 0, .int .i64 0, .int .i64 0, .int .i64 0, .int .i64 0, .bool false, .int .i64 0, .int .i64 0, .int .i64 0, .slice none 0 0], 27), (R13, #[.int .i64 q0, .int .i64 q1, .int .i64 q2, .int .i64 q3, .int .i64 q4, .int .i64 q5, .int .i64 q6, .bool q7, .int .i64 qad, .int .i64 qst, .int .i64 qlf, .slice qb ql.length qc], 27), (R10, #[.int .i64 p0, .int .i64 p1, .int .i64 p2, .int .i64 p3, .int .i64 p4, .int .i64 p5, .int .i64 p6, .bool p7], 24), (R7, #[.int .i64 d0, .int .i64 d1, .int .i64 d2, .int .i64 d3, .int .i64 d4, .int .i64 d5, .int .i64 d6, .bool d7, .int .i64 dad, .int .i64 dst, .int .i64 dlf, .slice xa dl.length xc, .bool dS, .int .i64 dC], 31), (R3, #[.int .i64 m0, .int .i64 m1, .int .i64 m2, .int .i64 m3, .int .i64 m4, .int .i64 m5, .int .i64 m6, .bool m7], 24), (R2, #[.int .i64 n0, .int .i64 n1, .int .i64 n2, .int .i64 n3, .int .i64 n4, .int .i64 n5, .int .i64 n6, .bool n7, .int .i64 ad, .int .i64 st, .int .i64 lf, .slice b l.length c], 27)] [(L15, H15, fun W => NumsNew L15 H15 W rb rl), (L12, H12, fun W => NumsNew L12 H12 W qb ql), (L6, H6, fun W => NumsNew L6 H6 W xa dl), (L1, H1, fun W => NumsNew L1 H1 W b l)] from HL15.out.box e16 g16 b16); clear g16 b16 e16)
    | (refine wpList_put_at rfl 27 (.tmp 12) (.tmp 41) rfl rfl (R16) 0 rfl (.agg #[.int .i64 r0, .int .i64 r1, .int .i64 r2, .int .i64 r3, .int .i64 r4, .int .i64 r5, .int .i64 r6, .bool r7, .int .i64 rad, .int .i64 rst, .int .i64 rlf, .slice rb rl.length rc]) rfl #[.int .i64 r0, .int .i64 r1, .int .i64 r2, .int .i64 r3, .int .i64 r4, .int .i64 r5, .int .i64 r6, .bool r7, .int .i64 rad, .int .i64 rst, .int .i64 rlf, .slice rb rl.length rc] rfl 27 #[.int .i64 0, .int .i64 0, .int .i64 0, .int .i64 0, .int .i64 0, .int .i64 0, .int .i64 0, .bool false, .int .i64 0, .int .i64 0, .int .i64 0, .slice none 0 0] #[.int .i64 r0, .int .i64 r1, .int .i64 r2, .int .i64 r3, .int .i64 r4, .int .i64 r5, .int .i64 r6, .bool r7, .int .i64 rad, .int .i64 rst, .int .i64 rlf, .slice rb rl.length rc] (HL16.out.get (.head _)) (by kernel_rfl) (by kernel_rfl) (by kernel_rfl) (by kernel_rfl) ?_; intro w17 g17 o17; have HL17 := Lib.hid (show Lg w w17 [(R16, #[.int .i64 r0, .int .i64 r1, .int .i64 r2, .int .i64 r3, .int .i64 r4, .int .i64 r5, .int .i64 r6, .bool r7, .int .i64 rad, .int .i64 rst, .int .i64 rlf, .slice rb rl.length rc], 27), (R13, #[.int .i64 q0, .int .i64 q1, .int .i64 q2, .int .i64 q3, .int .i64 q4, .int .i64 q5, .int .i64 q6, .bool q7, .int .i64 qad, .int .i64 qst, .int .i64 qlf, .slice qb ql.length qc], 27), (R10, #[.int .i64 p0, .int .i64 p1, .int .i64 p2, .int .i64 p3, .int .i64 p4, .int .i64 p5, .int .i64 p6, .bool p7], 24), (R7, #[.int .i64 d0, .int .i64 d1, .int .i64 d2, .int .i64 d3, .int .i64 d4, .int .i64 d5, .int .i64 d6, .bool d7, .int .i64 dad, .int .i64 dst, .int .i64 dlf, .slice xa dl.length xc, .bool dS, .int .i64 dC], 31), (R3, #[.int .i64 m0, .int .i64 m1, .int .i64 m2, .int .i64 m3, .int .i64 m4, .int .i64 m5, .int .i64 m6, .bool m7], 24), (R2, #[.int .i64 n0, .int .i64 n1, .int .i64 n2, .int .i64 n3, .int .i64 n4, .int .i64 n5, .int .i64 n6, .bool n7, .int .i64 ad, .int .i64 st, .int .i64 lf, .slice b l.length c], 27)] [(L15, H15, fun W => NumsNew L15 H15 W rb rl), (L12, H12, fun W => NumsNew L12 H12 W qb ql), (L6, H6, fun W => NumsNew L6 H6 W xa dl), (L1, H1, fun W => NumsNew L1 H1 W b l)] from HL16.out.put 0 rfl g17 o17 (List.forall_mem_cons.2 ⟨Nat.ne_of_lt qR16_R13, (List.forall_mem_cons.2 ⟨Nat.ne_of_lt qR16_R10, (List.forall_mem_cons.2 ⟨Nat.ne_of_lt qR16_R7, (List.forall_mem_cons.2 ⟨Nat.ne_of_lt qR16_R3, (List.forall_mem_cons.2 ⟨Nat.ne_of_lt qR16_R2, (fun _ h => nomatch h)⟩)⟩)⟩)⟩)⟩) (List.forall_mem_cons.2 ⟨.inl qR16_H15, (List.forall_mem_cons.2 ⟨.inl qR16_H12, (List.forall_mem_cons.2 ⟨.inl qR16_H6, (List.forall_mem_cons.2 ⟨.inl qR16_H1, (fun _ h => nomatch h)⟩)⟩)⟩)⟩) rfl); clear g17 o17))
  obtain ⟨U, eU⟩ : ∃ U, w17 = U := ⟨_, rfl⟩
  have HLU := HL17
  rw [eU] at HLU ⊢
  clear HL1 HL2 HL3 HL4 HL5 HL6 HL7 HL8 HL9 HL10 HL11 HL12 HL13 HL14 HL15 HL16 eU HIH
  have G5 := Lib.hid (HLU.out.get (.tail _ (.tail _ (.tail _ (.tail _ (.tail _ (.head _)))))))
  obtain ⟨S5, eS5⟩ : ∃ R, R2 = R := ⟨_, rfl⟩
  have G7 := Lib.hid (HLU.out.get (.tail _ (.tail _ (.tail _ (.tail _ (.head _))))))
  obtain ⟨S7, eS7⟩ : ∃ R, R3 = R := ⟨_, rfl⟩
  have G8 := Lib.hid (HLU.out.get (.tail _ (.tail _ (.tail _ (.head _)))))
  obtain ⟨S8, eS8⟩ : ∃ R, R7 = R := ⟨_, rfl⟩
  have G9 := Lib.hid (HLU.out.get (.tail _ (.tail _ (.head _))))
  obtain ⟨S9, eS9⟩ : ∃ R, R10 = R := ⟨_, rfl⟩
  have G11 := Lib.hid (HLU.out.get (.tail _ (.head _)))
  obtain ⟨S11, eS11⟩ : ∃ R, R13 = R := ⟨_, rfl⟩
  have G12 := Lib.hid (HLU.out.get (.head _))
  obtain ⟨S12, eS12⟩ : ∃ R, R16 = R := ⟨_, rfl⟩
  have Nb := Lib.hid (HLU.out.at (.tail _ (.tail _ (.tail _ (.head _))))).nums
  have Nxa := Lib.hid (HLU.out.at (.tail _ (.tail _ (.head _)))).nums
  have Nqb := Lib.hid (HLU.out.at (.tail _ (.head _))).nums
  have Nrb := Lib.hid (HLU.out.at (.head _)).nums
  have Mqb := Lib.hid (show ∃ H, NumsNew 0 H U qb ql ∧ H ≤ U.heap.size from ⟨_, (HLU.out.at (.tail _ (.head _))).wide (Nat.zero_le _) (Nat.le_refl _), (HLU.out.hi (.tail _ (.head _))).2⟩)
  have HB := Lib.hid HLU.out.below
  clear HLU
  rw [eS5, eS7, eS8, eS9, eS11, eS12]
  rw [eS5] at G5
  rw [eS7] at G7
  rw [eS8] at G8
  rw [eS9] at G9
  rw [eS11] at G11
  rw [eS12] at G12
  have hl7 : l.length ≤ 1048576 := by omega
  have hq7 : ql.length ≤ 1048576 := by omega
  have hr7 : rl.length ≤ 1048576 := by omega
  have HIT := fun W h => Lib.hid (implClaimTick_any ⟨q0, q1, q2, q3, q4, q5, q6, q7⟩ qad qst qlf qb qc ql W h hq7)
  have HST := fun W h => Lib.hid (specClaimTick_any ⟨q0, q1, q2, q3, q4, q5, q6, q7⟩ qad qst qlf qb qc ql W h hq7)
  obtain ⟨⟨⟨f0, f1, f2, f3, f4, f5, f6, f7⟩, fad, fst, flf, fl⟩, fC, hF, hFl⟩ := tickO_len ⟨q0, q1, q2, q3, q4, q5, q6, q7⟩ qad qst qlf ql hq7
  have hFr := tickO_right hF
  rw [hF] at HIT HST
  unfold ClOut clOutV clV at HIT HST
  dsimp only at HIT HST hFl
  have HSR := fun W h => Lib.hid (specClaimRight_any ⟨n0, n1, n2, n3, n4, n5, n6, n7⟩ ad st lf b c l W h hl7)
  have HIR := fun W h => Lib.hid (implClaimRight_any ⟨n0, n1, n2, n3, n4, n5, n6, n7⟩ ad st lf b c l W h hl7)
  obtain ⟨rB, hrB⟩ : ∃ x, clB ⟨⟨n0, n1, n2, n3, n4, n5, n6, n7⟩, ad, st, lf, l⟩ = x := ⟨_, rfl⟩
  rw [hrB] at HSR HIR
  unfold clV at HSR HIR
  dsimp only at HSR HIR
  have HIN := fun W => Lib.hid (implClaimNew_any ⟨p0, p1, p2, p3, p4, p5, p6, p7⟩ want W)
  have HSN := fun W => Lib.hid (specClaimNew_any ⟨p0, p1, p2, p3, p4, p5, p6, p7⟩ want W)
  obtain ⟨⟨g0, g1, g2, g3, g4, g5, g6, g7⟩, gad, gst, glf, gS, gC, hG, hGr⟩ := new_form ⟨p0, p1, p2, p3, p4, p5, p6, p7⟩ want
  rw [hG] at HIN HSN
  unfold clOutV nmV at HIN HSN
  dsimp only at HIN HSN
  have HIK := fun W h => Lib.hid (implClaimCan_any ⟨r0, r1, r2, r3, r4, r5, r6, r7⟩ rad rst rlf rb rc rl W h hr7)
  have HSK := fun W h => Lib.hid (specClaimCan_any ⟨r0, r1, r2, r3, r4, r5, r6, r7⟩ rad rst rlf rb rc rl W h hr7)
  obtain ⟨kx, ks, hK⟩ := can_form ⟨⟨r0, r1, r2, r3, r4, r5, r6, r7⟩, rad, rst, rlf, rl⟩
  rw [hK] at HIK HSK
  unfold clV at HIK HSK
  dsimp only at HIK HSK
  have HDr := Lib.hid (hearO_right HD.out)
  have HFr := Lib.hid hFr
  have HGr := Lib.hid hGr
  have HF := Lib.hid hF
  have HrB := Lib.hid hrB
  clear hF hFr hG hGr hK hrB
  have J5 := Lib.hid (fun W (hW : Below U.heap.size U W) => (hW.block S5 (heap_is G5.out)).trans G5.out)
  have J7 := Lib.hid (fun W (hW : Below U.heap.size U W) => (hW.block S7 (heap_is G7.out)).trans G7.out)
  have J8 := Lib.hid (fun W (hW : Below U.heap.size U W) => (hW.block S8 (heap_is G8.out)).trans G8.out)
  have J9 := Lib.hid (fun W (hW : Below U.heap.size U W) => (hW.block S9 (heap_is G9.out)).trans G9.out)
  have J11 := Lib.hid (fun W (hW : Below U.heap.size U W) => (hW.block S11 (heap_is G11.out)).trans G11.out)
  have J12 := Lib.hid (fun W (hW : Below U.heap.size U W) => (hW.block S12 (heap_is G12.out)).trans G12.out)
  refine wp_region_anyordG (fun W => Below U.heap.size U W) (fun W W' => Below W.heap.size W W') (TCl (.agg #[.int .i64 d0, .int .i64 d1, .int .i64 d2, .int .i64 d3, .int .i64 d4, .int .i64 d5, .int .i64 d6, .bool d7, .int .i64 dad, .int .i64 dst, .int .i64 dlf, .slice xa dl.length xc, .bool dS, .int .i64 dC]) (.agg #[.int .i64 n0, .int .i64 n1, .int .i64 n2, .int .i64 n3, .int .i64 n4, .int .i64 n5, .int .i64 n6, .bool n7, .int .i64 ad, .int .i64 st, .int .i64 lf, .slice b l.length c]) (.agg #[.int .i64 m0, .int .i64 m1, .int .i64 m2, .int .i64 m3, .int .i64 m4, .int .i64 m5, .int .i64 m6, .bool m7]) (.agg #[.int .i64 p0, .int .i64 p1, .int .i64 p2, .int .i64 p3, .int .i64 p4, .int .i64 p5, .int .i64 p6, .bool p7]) (.agg #[.int .i64 q0, .int .i64 q1, .int .i64 q2, .int .i64 q3, .int .i64 q4, .int .i64 q5, .int .i64 q6, .bool q7, .int .i64 qad, .int .i64 qst, .int .i64 qlf, .slice qb ql.length qc]) (.agg #[.int .i64 r0, .int .i64 r1, .int .i64 r2, .int .i64 r3, .int .i64 r4, .int .i64 r5, .int .i64 r6, .bool r7, .int .i64 rad, .int .i64 rst, .int .i64 rlf, .slice rb rl.length rc]) (.agg #[.int .i64 g0, .int .i64 g1, .int .i64 g2, .int .i64 g3, .int .i64 g4, .int .i64 g5, .int .i64 g6, .bool g7, .int .i64 gad, .int .i64 gst, .int .i64 glf, .slice none 0 0, .bool gS, .int .i64 gC]) (.agg #[.int .i64 kx, .string ks]) src want rB (fun w v => ∃ (za : Option Addr) (zc : Nat), v = .agg #[.int .i64 d0, .int .i64 d1, .int .i64 d2, .int .i64 d3, .int .i64 d4, .int .i64 d5, .int .i64 d6, .bool d7, .int .i64 dad, .int .i64 dst, .int .i64 dlf, .slice za dl.length zc, .bool dS, .int .i64 dC] ∧ NumsIn w za dl) (fun w v => ∃ (za : Option Addr) (zc : Nat), v = .agg #[.int .i64 f0, .int .i64 f1, .int .i64 f2, .int .i64 f3, .int .i64 f4, .int .i64 f5, .int .i64 f6, .bool f7, .int .i64 fad, .int .i64 fst, .int .i64 flf, .slice za fl.length zc, .bool false, .int .i64 fC] ∧ NumsIn w za fl)) (by kernel_rfl) (by kernel_rfl) (by kernel_rfl) (TCl.kept (fun w w' v hR ⟨za, zc, e, hn⟩ => ⟨za, zc, e, hn.kept hR⟩) (fun w w' v hR ⟨za, zc, e, hn⟩ => ⟨za, zc, e, hn.kept hR⟩)) ?_ ?_ ?_
  · exact (Below.refl _ _).drew
  · refine ⟨⟨.inl rfl, fun a1 W hC hK => ?_⟩, ⟨.inl rfl, fun a1 W hC hK => ?_⟩, ⟨.inl rfl, fun a1 W hC hK => ?_⟩, ⟨.inl rfl, fun a1 W hC hK => ?_⟩, ⟨.inl rfl, fun a1 W hC hK => ?_⟩, ⟨.inl rfl, fun a1 W hC hK => ?_⟩, ⟨.inl rfl, fun a1 W hC hK => ?_⟩, ⟨.inl rfl, fun a1 W hC hK => ?_⟩, ⟨GuardOn.on 7 false 49 (fun _ _ h => h) rfl (by kernel_rfl) rfl rfl (by kernel_rfl), fun a1 W hC hK => ?_⟩, ⟨GuardOn.on 7 false 49 (fun _ _ h => h) rfl (by kernel_rfl) rfl rfl (by kernel_rfl), fun a1 W hC hK => ?_⟩, ⟨GuardOn.on 7 false 49 (fun _ _ h => h) rfl (by kernel_rfl) rfl rfl (by kernel_rfl), fun a1 W hC hK => ?_⟩, ⟨GuardOn.on 7 false 49 (fun _ _ h => h) rfl (by kernel_rfl) rfl rfl (by kernel_rfl), fun a1 W hC hK => ?_⟩, ⟨GuardOn.on 7 false 49 (fun _ _ h => h) rfl (by kernel_rfl) rfl rfl (by kernel_rfl), fun a1 W hC hK => ?_⟩, ⟨GuardOn.on 7 false 49 (fun _ _ h => h) rfl (by kernel_rfl) rfl rfl (by kernel_rfl), fun a1 W hC hK => ?_⟩, ⟨GuardOn.on 7 false 49 (fun _ _ h => h) rfl (by kernel_rfl) rfl rfl (by kernel_rfl), fun a1 W hC hK => ?_⟩, ⟨GuardOn.on 7 false 49 (fun _ _ h => h) rfl (by kernel_rfl) rfl rfl (by kernel_rfl), fun a1 W hC hK => ?_⟩, ⟨.inl rfl, fun a1 W hC hK => ?_⟩, ⟨.inl rfl, fun a1 W hC hK => ?_⟩, ⟨GuardOn.on 17 false 59 (fun _ _ h => h) rfl (by kernel_rfl) rfl rfl (by kernel_rfl), fun a1 W hC hK => ?_⟩, ⟨GuardOn.on 17 false 59 (fun _ _ h => h) rfl (by kernel_rfl) rfl rfl (by kernel_rfl), fun a1 W hC hK => ?_⟩, ⟨GuardOn.on 17 false 59 (fun _ _ h => h) rfl (by kernel_rfl) rfl rfl (by kernel_rfl), fun a1 W hC hK => ?_⟩, ⟨GuardOn.on 17 false 59 (fun _ _ h => h) rfl (by kernel_rfl) rfl rfl (by kernel_rfl), fun a1 W hC hK => ?_⟩, ⟨GuardOn.on 17 false 59 (fun _ _ h => h) rfl (by kernel_rfl) rfl rfl (by kernel_rfl), fun a1 W hC hK => ?_⟩, ⟨GuardOn.on 17 false 59 (fun _ _ h => h) rfl (by kernel_rfl) rfl rfl (by kernel_rfl), fun a1 W hC hK => ?_⟩, ⟨.inl rfl, fun a1 W hC hK => ?_⟩, ⟨.inl rfl, fun a1 W hC hK => ?_⟩, ⟨GuardOn.on 25 false 67 (fun _ _ h => h) rfl (by kernel_rfl) rfl rfl (by kernel_rfl), fun a1 W hC hK => ?_⟩, ⟨GuardOn.on 25 false 67 (fun _ _ h => h) rfl (by kernel_rfl) rfl rfl (by kernel_rfl), fun a1 W hC hK => ?_⟩, ⟨GuardOn.on 25 false 67 (fun _ _ h => h) rfl (by kernel_rfl) rfl rfl (by kernel_rfl), fun a1 W hC hK => ?_⟩, ⟨GuardOn.on 25 false 67 (fun _ _ h => h) rfl (by kernel_rfl) rfl rfl (by kernel_rfl), fun a1 W hC hK => ?_⟩, ⟨GuardOn.on 25 false 67 (fun _ _ h => h) rfl (by kernel_rfl) rfl rfl (by kernel_rfl), fun a1 W hC hK => ?_⟩, ⟨.inl rfl, fun a1 W hC hK => ?_⟩, ⟨.inl rfl, fun a1 W hC hK => ?_⟩, ⟨GuardOn.on 32 false 74 (fun _ _ h => h) rfl (by kernel_rfl) rfl rfl (by kernel_rfl), fun a1 W hC hK => ?_⟩, ⟨GuardOn.on 32 false 74 (fun _ _ h => h) rfl (by kernel_rfl) rfl rfl (by kernel_rfl), fun a1 W hC hK => ?_⟩, ⟨GuardOn.on 32 false 74 (fun _ _ h => h) rfl (by kernel_rfl) rfl rfl (by kernel_rfl), fun a1 W hC hK => ?_⟩, ⟨GuardOn.on 32 false 74 (fun _ _ h => h) rfl (by kernel_rfl) rfl rfl (by kernel_rfl), fun a1 W hC hK => ?_⟩, ⟨GuardOn.on 32 false 74 (fun _ _ h => h) rfl (by kernel_rfl) rfl rfl (by kernel_rfl), fun a1 W hC hK => ?_⟩, ⟨.inl rfl, fun a1 W hC hK => ?_⟩, trivial⟩
    · have e1 : a1.eval (.tmp 8) = .pointer (some ⟨S8, 0, none⟩) := (hK.old 8 (by kernel_rfl)).trans rfl
      exact ob_load_row 31 (.tmp 8) rfl S8 e1 31 [.int .i64 d0, .int .i64 d1, .int .i64 d2, .int .i64 d3, .int .i64 d4, .int .i64 d5, .int .i64 d6, .bool d7, .int .i64 dad, .int .i64 dst, .int .i64 dlf, .slice xa dl.length xc, .bool dS, .int .i64 dC] (J8.out W hC) _ Try.underlying31 rfl (by kernel_rfl) ⟨_, rfl, hC, Below.refl _ _, rfl⟩
    · have e1 : a1.eval (.tmp 5) = .pointer (some ⟨S5, 0, none⟩) := (hK.old 5 (by kernel_rfl)).trans rfl
      exact ob_load_row 27 (.tmp 5) rfl S5 e1 27 [.int .i64 n0, .int .i64 n1, .int .i64 n2, .int .i64 n3, .int .i64 n4, .int .i64 n5, .int .i64 n6, .bool n7, .int .i64 ad, .int .i64 st, .int .i64 lf, .slice b l.length c] (J5.out W hC) _ Try.underlying27 rfl (by kernel_rfl) ⟨_, rfl, hC, Below.refl _ _, rfl⟩
    · exact ob_move rfl ⟨_, rfl, hC, Below.refl _ _, (hK.old 6 (by kernel_rfl)).trans rfl⟩
    · have e1 : a1.eval (.tmp 7) = .pointer (some ⟨S7, 0, none⟩) := (hK.old 7 (by kernel_rfl)).trans rfl
      exact ob_load_row 24 (.tmp 7) rfl S7 e1 24 [.int .i64 m0, .int .i64 m1, .int .i64 m2, .int .i64 m3, .int .i64 m4, .int .i64 m5, .int .i64 m6, .bool m7] (J7.out W hC) _ Try.underlying24 rfl (by kernel_rfl) ⟨_, rfl, hC, Below.refl _ _, rfl⟩
    · skip
      have e1 : a1.eval (.tmp 43) = .agg #[.int .i64 n0, .int .i64 n1, .int .i64 n2, .int .i64 n3, .int .i64 n4, .int .i64 n5, .int .i64 n6, .bool n7, .int .i64 ad, .int .i64 st, .int .i64 lf, .slice b l.length c] := hK.get 1 43 (by kernel_rfl) rfl rfl (by kernel_rfl)
      have e2 : a1.eval (.tmp 44) = .int .i64 src := hK.get 2 44 (by kernel_rfl) rfl rfl (by kernel_rfl)
      have e3 : a1.eval (.tmp 45) = .agg #[.int .i64 m0, .int .i64 m1, .int .i64 m2, .int .i64 m3, .int .i64 m4, .int .i64 m5, .int .i64 m6, .bool m7] := hK.get 3 45 (by kernel_rfl) rfl rfl (by kernel_rfl)
      refine ob_call rfl Try.func17 (by kernel_rfl) (by kernel_rfl) (vals := #[.agg #[.int .i64 n0, .int .i64 n1, .int .i64 n2, .int .i64 n3, .int .i64 n4, .int .i64 n5, .int .i64 n6, .bool n7, .int .i64 ad, .int .i64 st, .int .i64 lf, .slice b l.length c], .int .i64 src, .agg #[.int .i64 m0, .int .i64 m1, .int .i64 m2, .int .i64 m3, .int .i64 m4, .int .i64 m5, .int .i64 m6, .bool m7]]) (by simp [e1, e2, e3]) ?_
      refine ((HSH W (Nb.out.kept hC)).out).mono ?_
      rintro e W' ⟨za, zc, rfl, hn, h⟩
      exact ⟨_, rfl, _, rfl, hC.trans (h.mono hC.size), h, za, zc, rfl, hn.nums⟩
    · skip
      have e1 : a1.eval (.tmp 42) = .agg #[.int .i64 d0, .int .i64 d1, .int .i64 d2, .int .i64 d3, .int .i64 d4, .int .i64 d5, .int .i64 d6, .bool d7, .int .i64 dad, .int .i64 dst, .int .i64 dlf, .slice xa dl.length xc, .bool dS, .int .i64 dC] := hK.get 0 42 (by kernel_rfl) rfl rfl (by kernel_rfl)
      obtain ⟨a2, c2, e2, n2⟩ : ∃ (za : Option Addr) (zc : Nat), a1.eval (.tmp 46) = .agg #[.int .i64 d0, .int .i64 d1, .int .i64 d2, .int .i64 d3, .int .i64 d4, .int .i64 d5, .int .i64 d6, .bool d7, .int .i64 dad, .int .i64 dst, .int .i64 dlf, .slice za dl.length zc, .bool dS, .int .i64 dC] ∧ NumsIn W za dl := hK.get 4 46 (by kernel_rfl) rfl rfl (by kernel_rfl)
      refine ob_call rfl Try.func16 (by kernel_rfl) (by kernel_rfl) (vals := #[.agg #[.int .i64 d0, .int .i64 d1, .int .i64 d2, .int .i64 d3, .int .i64 d4, .int .i64 d5, .int .i64 d6, .bool d7, .int .i64 dad, .int .i64 dst, .int .i64 dlf, .slice xa dl.length xc, .bool dS, .int .i64 dC], .agg #[.int .i64 d0, .int .i64 d1, .int .i64 d2, .int .i64 d3, .int .i64 d4, .int .i64 d5, .int .i64 d6, .bool d7, .int .i64 dad, .int .i64 dst, .int .i64 dlf, .slice a2 dl.length c2, .bool dS, .int .i64 dC]]) (by simp [e1, e2]) ?_
      refine (lwClaims_same ⟨d0, d1, d2, d3, d4, d5, d6, d7⟩ dad dst dlf xa a2 xc c2 dl dS dC W (Nxa.out.kept hC) n2 hDl HDr.out).mono ?_
      rintro e W' ⟨rfl, h⟩
      exact ⟨_, rfl, _, rfl, hC.trans (h.mono hC.size), h, rfl⟩
    · skip
      have e1 : a1.eval (.tmp 47) = .bool true := hK.get 5 47 (by kernel_rfl) rfl rfl (by kernel_rfl)
      simp only [Act.eval, Array.getD_eq_getD_getElem?] at e1
      exact ob_value (v := .bool false) (w' := W) (by simp [execOp, go_sem, e1]) ⟨_, rfl, hC, Below.refl _ _, rfl⟩
    · exact ob_move rfl ⟨_, rfl, hC, Below.refl _ _, hK.get 6 48 (by kernel_rfl) rfl rfl (by kernel_rfl)⟩
    · have e1 : a1.eval (.tmp 9) = .pointer (some ⟨S9, 0, none⟩) := (hK.old 9 (by kernel_rfl)).trans rfl
      exact ob_load_row 24 (.tmp 9) rfl S9 e1 24 [.int .i64 p0, .int .i64 p1, .int .i64 p2, .int .i64 p3, .int .i64 p4, .int .i64 p5, .int .i64 p6, .bool p7] (J9.out W hC) _ Try.underlying24 rfl (by kernel_rfl) ⟨_, rfl, hC, Below.refl _ _, rfl⟩
    · exact ob_move rfl ⟨_, rfl, hC, Below.refl _ _, (hK.old 10 (by kernel_rfl)).trans rfl⟩
    · skip
      have e1 : a1.eval (.tmp 50) = .agg #[.int .i64 p0, .int .i64 p1, .int .i64 p2, .int .i64 p3, .int .i64 p4, .int .i64 p5, .int .i64 p6, .bool p7] := hK.get 8 50 (by kernel_rfl) rfl rfl (by kernel_rfl)
      have e2 : a1.eval (.tmp 51) = .int .i64 want := hK.get 9 51 (by kernel_rfl) rfl rfl (by kernel_rfl)
      refine ob_call rfl Try.func18 (by kernel_rfl) (by kernel_rfl) (vals := #[.agg #[.int .i64 p0, .int .i64 p1, .int .i64 p2, .int .i64 p3, .int .i64 p4, .int .i64 p5, .int .i64 p6, .bool p7], .int .i64 want]) (by simp [e1, e2]) ?_
      refine ((HIN W).out).mono ?_
      rintro e W' ⟨rfl, h⟩
      exact ⟨_, rfl, _, rfl, hC.trans (h.mono hC.size), h, rfl⟩
    · have e1 : a1.eval (.tmp 9) = .pointer (some ⟨S9, 0, none⟩) := (hK.old 9 (by kernel_rfl)).trans rfl
      exact ob_load_row 24 (.tmp 9) rfl S9 e1 24 [.int .i64 p0, .int .i64 p1, .int .i64 p2, .int .i64 p3, .int .i64 p4, .int .i64 p5, .int .i64 p6, .bool p7] (J9.out W hC) _ Try.underlying24 rfl (by kernel_rfl) ⟨_, rfl, hC, Below.refl _ _, rfl⟩
    · exact ob_move rfl ⟨_, rfl, hC, Below.refl _ _, (hK.old 10 (by kernel_rfl)).trans rfl⟩
    · skip
      have e1 : a1.eval (.tmp 53) = .agg #[.int .i64 p0, .int .i64 p1, .int .i64 p2, .int .i64 p3, .int .i64 p4, .int .i64 p5, .int .i64 p6, .bool p7] := hK.get 11 53 (by kernel_rfl) rfl rfl (by kernel_rfl)
      have e2 : a1.eval (.tmp 54) = .int .i64 want := hK.get 12 54 (by kernel_rfl) rfl rfl (by kernel_rfl)
      refine ob_call rfl Try.func19 (by kernel_rfl) (by kernel_rfl) (vals := #[.agg #[.int .i64 p0, .int .i64 p1, .int .i64 p2, .int .i64 p3, .int .i64 p4, .int .i64 p5, .int .i64 p6, .bool p7], .int .i64 want]) (by simp [e1, e2]) ?_
      refine ((HSN W).out).mono ?_
      rintro e W' ⟨rfl, h⟩
      exact ⟨_, rfl, _, rfl, hC.trans (h.mono hC.size), h, rfl⟩
    · skip
      have e1 : a1.eval (.tmp 52) = .agg #[.int .i64 g0, .int .i64 g1, .int .i64 g2, .int .i64 g3, .int .i64 g4, .int .i64 g5, .int .i64 g6, .bool g7, .int .i64 gad, .int .i64 gst, .int .i64 glf, .slice none 0 0, .bool gS, .int .i64 gC] := hK.get 10 52 (by kernel_rfl) rfl rfl (by kernel_rfl)
      have e2 : a1.eval (.tmp 55) = .agg #[.int .i64 g0, .int .i64 g1, .int .i64 g2, .int .i64 g3, .int .i64 g4, .int .i64 g5, .int .i64 g6, .bool g7, .int .i64 gad, .int .i64 gst, .int .i64 glf, .slice none 0 0, .bool gS, .int .i64 gC] := hK.get 13 55 (by kernel_rfl) rfl rfl (by kernel_rfl)
      refine ob_call rfl Try.func16 (by kernel_rfl) (by kernel_rfl) (vals := #[.agg #[.int .i64 g0, .int .i64 g1, .int .i64 g2, .int .i64 g3, .int .i64 g4, .int .i64 g5, .int .i64 g6, .bool g7, .int .i64 gad, .int .i64 gst, .int .i64 glf, .slice none 0 0, .bool gS, .int .i64 gC], .agg #[.int .i64 g0, .int .i64 g1, .int .i64 g2, .int .i64 g3, .int .i64 g4, .int .i64 g5, .int .i64 g6, .bool g7, .int .i64 gad, .int .i64 gst, .int .i64 glf, .slice none 0 0, .bool gS, .int .i64 gC]]) (by simp [e1, e2]) ?_
      refine (lwClaims_same ⟨g0, g1, g2, g3, g4, g5, g6, g7⟩ gad gst glf none none 0 0 [] gS gC W (NumsIn.nil _ _) (NumsIn.nil _ _) (by simp) HGr.out).mono ?_
      rintro e W' ⟨rfl, h⟩
      exact ⟨_, rfl, _, rfl, hC.trans (h.mono hC.size), h, rfl⟩
    · skip
      have e1 : a1.eval (.tmp 56) = .bool true := hK.get 14 56 (by kernel_rfl) rfl rfl (by kernel_rfl)
      simp only [Act.eval, Array.getD_eq_getD_getElem?] at e1
      exact ob_value (v := .bool false) (w' := W) (by simp [execOp, go_sem, e1]) ⟨_, rfl, hC, Below.refl _ _, rfl⟩
    · skip
      have e1 : a1.eval (.tmp 49) = .bool false := hK.get 7 49 (by kernel_rfl) rfl rfl (by kernel_rfl)
      have e2 : a1.eval (.tmp 57) = .bool false := hK.get 15 57 (by kernel_rfl) rfl rfl (by kernel_rfl)
      simp only [Act.eval, Array.getD_eq_getD_getElem?] at e1 e2
      exact ob_value (v := .bool false) (w' := W) (by simp [execOp, go_sem, e1, e2]) ⟨_, rfl, hC, Below.refl _ _, rfl⟩
    · exact ob_move rfl ⟨_, rfl, hC, Below.refl _ _, hK.get 16 58 (by kernel_rfl) rfl rfl (by kernel_rfl)⟩
    · have e1 : a1.eval (.tmp 11) = .pointer (some ⟨S11, 0, none⟩) := (hK.old 11 (by kernel_rfl)).trans rfl
      exact ob_load_row 27 (.tmp 11) rfl S11 e1 27 [.int .i64 q0, .int .i64 q1, .int .i64 q2, .int .i64 q3, .int .i64 q4, .int .i64 q5, .int .i64 q6, .bool q7, .int .i64 qad, .int .i64 qst, .int .i64 qlf, .slice qb ql.length qc] (J11.out W hC) _ Try.underlying27 rfl (by kernel_rfl) ⟨_, rfl, hC, Below.refl _ _, rfl⟩
    · skip
      have e1 : a1.eval (.tmp 60) = .agg #[.int .i64 q0, .int .i64 q1, .int .i64 q2, .int .i64 q3, .int .i64 q4, .int .i64 q5, .int .i64 q6, .bool q7, .int .i64 qad, .int .i64 qst, .int .i64 qlf, .slice qb ql.length qc] := hK.get 18 60 (by kernel_rfl) rfl rfl (by kernel_rfl)
      refine ob_call rfl Try.func20 (by kernel_rfl) (by kernel_rfl) (vals := #[.agg #[.int .i64 q0, .int .i64 q1, .int .i64 q2, .int .i64 q3, .int .i64 q4, .int .i64 q5, .int .i64 q6, .bool q7, .int .i64 qad, .int .i64 qst, .int .i64 qlf, .slice qb ql.length qc]]) (by simp [e1]) ?_
      refine ((HIT W (Nqb.out.kept hC)).out).mono ?_
      rintro e W' ⟨za, zc, rfl, hn, h⟩
      exact ⟨_, rfl, _, rfl, hC.trans (h.mono hC.size), h, za, zc, rfl, hn.nums⟩
    · have e1 : a1.eval (.tmp 11) = .pointer (some ⟨S11, 0, none⟩) := (hK.old 11 (by kernel_rfl)).trans rfl
      exact ob_load_row 27 (.tmp 11) rfl S11 e1 27 [.int .i64 q0, .int .i64 q1, .int .i64 q2, .int .i64 q3, .int .i64 q4, .int .i64 q5, .int .i64 q6, .bool q7, .int .i64 qad, .int .i64 qst, .int .i64 qlf, .slice qb ql.length qc] (J11.out W hC) _ Try.underlying27 rfl (by kernel_rfl) ⟨_, rfl, hC, Below.refl _ _, rfl⟩
    · skip
      have e1 : a1.eval (.tmp 62) = .agg #[.int .i64 q0, .int .i64 q1, .int .i64 q2, .int .i64 q3, .int .i64 q4, .int .i64 q5, .int .i64 q6, .bool q7, .int .i64 qad, .int .i64 qst, .int .i64 qlf, .slice qb ql.length qc] := hK.get 20 62 (by kernel_rfl) rfl rfl (by kernel_rfl)
      refine ob_call rfl Try.func21 (by kernel_rfl) (by kernel_rfl) (vals := #[.agg #[.int .i64 q0, .int .i64 q1, .int .i64 q2, .int .i64 q3, .int .i64 q4, .int .i64 q5, .int .i64 q6, .bool q7, .int .i64 qad, .int .i64 qst, .int .i64 qlf, .slice qb ql.length qc]]) (by simp [e1]) ?_
      refine ((HST W (Nqb.out.kept hC)).out).mono ?_
      rintro e W' ⟨za, zc, rfl, hn, h⟩
      exact ⟨_, rfl, _, rfl, hC.trans (h.mono hC.size), h, za, zc, rfl, hn.nums⟩
    · skip
      obtain ⟨a1_, c1, e1, n1⟩ : ∃ (za : Option Addr) (zc : Nat), a1.eval (.tmp 61) = .agg #[.int .i64 f0, .int .i64 f1, .int .i64 f2, .int .i64 f3, .int .i64 f4, .int .i64 f5, .int .i64 f6, .bool f7, .int .i64 fad, .int .i64 fst, .int .i64 flf, .slice za fl.length zc, .bool false, .int .i64 fC] ∧ NumsIn W za fl := hK.get 19 61 (by kernel_rfl) rfl rfl (by kernel_rfl)
      obtain ⟨a2, c2, e2, n2⟩ : ∃ (za : Option Addr) (zc : Nat), a1.eval (.tmp 63) = .agg #[.int .i64 f0, .int .i64 f1, .int .i64 f2, .int .i64 f3, .int .i64 f4, .int .i64 f5, .int .i64 f6, .bool f7, .int .i64 fad, .int .i64 fst, .int .i64 flf, .slice za fl.length zc, .bool false, .int .i64 fC] ∧ NumsIn W za fl := hK.get 21 63 (by kernel_rfl) rfl rfl (by kernel_rfl)
      refine ob_call rfl Try.func16 (by kernel_rfl) (by kernel_rfl) (vals := #[.agg #[.int .i64 f0, .int .i64 f1, .int .i64 f2, .int .i64 f3, .int .i64 f4, .int .i64 f5, .int .i64 f6, .bool f7, .int .i64 fad, .int .i64 fst, .int .i64 flf, .slice a1_ fl.length c1, .bool false, .int .i64 fC], .agg #[.int .i64 f0, .int .i64 f1, .int .i64 f2, .int .i64 f3, .int .i64 f4, .int .i64 f5, .int .i64 f6, .bool f7, .int .i64 fad, .int .i64 fst, .int .i64 flf, .slice a2 fl.length c2, .bool false, .int .i64 fC]]) (by simp [e1, e2]) ?_
      refine (lwClaims_same ⟨f0, f1, f2, f3, f4, f5, f6, f7⟩ fad fst flf a1_ a2 c1 c2 fl false fC W n1 n2 hFl HFr.out).mono ?_
      rintro e W' ⟨rfl, h⟩
      exact ⟨_, rfl, _, rfl, hC.trans (h.mono hC.size), h, rfl⟩
    · skip
      have e1 : a1.eval (.tmp 64) = .bool true := hK.get 22 64 (by kernel_rfl) rfl rfl (by kernel_rfl)
      simp only [Act.eval, Array.getD_eq_getD_getElem?] at e1
      exact ob_value (v := .bool false) (w' := W) (by simp [execOp, go_sem, e1]) ⟨_, rfl, hC, Below.refl _ _, rfl⟩
    · skip
      have e1 : a1.eval (.tmp 59) = .bool false := hK.get 17 59 (by kernel_rfl) rfl rfl (by kernel_rfl)
      have e2 : a1.eval (.tmp 65) = .bool false := hK.get 23 65 (by kernel_rfl) rfl rfl (by kernel_rfl)
      simp only [Act.eval, Array.getD_eq_getD_getElem?] at e1 e2
      exact ob_value (v := .bool false) (w' := W) (by simp [execOp, go_sem, e1, e2]) ⟨_, rfl, hC, Below.refl _ _, rfl⟩
    · exact ob_move rfl ⟨_, rfl, hC, Below.refl _ _, hK.get 24 66 (by kernel_rfl) rfl rfl (by kernel_rfl)⟩
    · have e1 : a1.eval (.tmp 12) = .pointer (some ⟨S12, 0, none⟩) := (hK.old 12 (by kernel_rfl)).trans rfl
      exact ob_load_row 27 (.tmp 12) rfl S12 e1 27 [.int .i64 r0, .int .i64 r1, .int .i64 r2, .int .i64 r3, .int .i64 r4, .int .i64 r5, .int .i64 r6, .bool r7, .int .i64 rad, .int .i64 rst, .int .i64 rlf, .slice rb rl.length rc] (J12.out W hC) _ Try.underlying27 rfl (by kernel_rfl) ⟨_, rfl, hC, Below.refl _ _, rfl⟩
    · skip
      have e1 : a1.eval (.tmp 68) = .agg #[.int .i64 r0, .int .i64 r1, .int .i64 r2, .int .i64 r3, .int .i64 r4, .int .i64 r5, .int .i64 r6, .bool r7, .int .i64 rad, .int .i64 rst, .int .i64 rlf, .slice rb rl.length rc] := hK.get 26 68 (by kernel_rfl) rfl rfl (by kernel_rfl)
      refine ob_call rfl Try.func22 (by kernel_rfl) (by kernel_rfl) (vals := #[.agg #[.int .i64 r0, .int .i64 r1, .int .i64 r2, .int .i64 r3, .int .i64 r4, .int .i64 r5, .int .i64 r6, .bool r7, .int .i64 rad, .int .i64 rst, .int .i64 rlf, .slice rb rl.length rc]]) (by simp [e1]) ?_
      refine ((HIK W (Nrb.out.kept hC)).out).mono ?_
      rintro e W' ⟨rfl, h⟩
      exact ⟨_, rfl, _, rfl, hC.trans (h.mono hC.size), h, rfl⟩
    · have e1 : a1.eval (.tmp 12) = .pointer (some ⟨S12, 0, none⟩) := (hK.old 12 (by kernel_rfl)).trans rfl
      exact ob_load_row 27 (.tmp 12) rfl S12 e1 27 [.int .i64 r0, .int .i64 r1, .int .i64 r2, .int .i64 r3, .int .i64 r4, .int .i64 r5, .int .i64 r6, .bool r7, .int .i64 rad, .int .i64 rst, .int .i64 rlf, .slice rb rl.length rc] (J12.out W hC) _ Try.underlying27 rfl (by kernel_rfl) ⟨_, rfl, hC, Below.refl _ _, rfl⟩
    · skip
      have e1 : a1.eval (.tmp 70) = .agg #[.int .i64 r0, .int .i64 r1, .int .i64 r2, .int .i64 r3, .int .i64 r4, .int .i64 r5, .int .i64 r6, .bool r7, .int .i64 rad, .int .i64 rst, .int .i64 rlf, .slice rb rl.length rc] := hK.get 28 70 (by kernel_rfl) rfl rfl (by kernel_rfl)
      refine ob_call rfl Try.func23 (by kernel_rfl) (by kernel_rfl) (vals := #[.agg #[.int .i64 r0, .int .i64 r1, .int .i64 r2, .int .i64 r3, .int .i64 r4, .int .i64 r5, .int .i64 r6, .bool r7, .int .i64 rad, .int .i64 rst, .int .i64 rlf, .slice rb rl.length rc]]) (by simp [e1]) ?_
      refine ((HSK W (Nrb.out.kept hC)).out).mono ?_
      rintro e W' ⟨rfl, h⟩
      exact ⟨_, rfl, _, rfl, hC.trans (h.mono hC.size), h, rfl⟩
    · skip
      have e1 : a1.eval (.tmp 69) = .agg #[.int .i64 kx, .string ks] := hK.get 27 69 (by kernel_rfl) rfl rfl (by kernel_rfl)
      have e2 : a1.eval (.tmp 71) = .agg #[.int .i64 kx, .string ks] := hK.get 29 71 (by kernel_rfl) rfl rfl (by kernel_rfl)
      simp only [Act.eval, Array.getD_eq_getD_getElem?] at e1 e2
      exact ob_value (v := .bool false) (w' := W) (by simp [execOp, go_sem, e1, e2]) ⟨_, rfl, hC, Below.refl _ _, rfl⟩
    · skip
      have e1 : a1.eval (.tmp 67) = .bool false := hK.get 25 67 (by kernel_rfl) rfl rfl (by kernel_rfl)
      have e2 : a1.eval (.tmp 72) = .bool false := hK.get 30 72 (by kernel_rfl) rfl rfl (by kernel_rfl)
      simp only [Act.eval, Array.getD_eq_getD_getElem?] at e1 e2
      exact ob_value (v := .bool false) (w' := W) (by simp [execOp, go_sem, e1, e2]) ⟨_, rfl, hC, Below.refl _ _, rfl⟩
    · exact ob_move rfl ⟨_, rfl, hC, Below.refl _ _, hK.get 31 73 (by kernel_rfl) rfl rfl (by kernel_rfl)⟩
    · have e1 : a1.eval (.tmp 5) = .pointer (some ⟨S5, 0, none⟩) := (hK.old 5 (by kernel_rfl)).trans rfl
      exact ob_load_row 27 (.tmp 5) rfl S5 e1 27 [.int .i64 n0, .int .i64 n1, .int .i64 n2, .int .i64 n3, .int .i64 n4, .int .i64 n5, .int .i64 n6, .bool n7, .int .i64 ad, .int .i64 st, .int .i64 lf, .slice b l.length c] (J5.out W hC) _ Try.underlying27 rfl (by kernel_rfl) ⟨_, rfl, hC, Below.refl _ _, rfl⟩
    · skip
      have e1 : a1.eval (.tmp 75) = .agg #[.int .i64 n0, .int .i64 n1, .int .i64 n2, .int .i64 n3, .int .i64 n4, .int .i64 n5, .int .i64 n6, .bool n7, .int .i64 ad, .int .i64 st, .int .i64 lf, .slice b l.length c] := hK.get 33 75 (by kernel_rfl) rfl rfl (by kernel_rfl)
      refine ob_call rfl Try.func24 (by kernel_rfl) (by kernel_rfl) (vals := #[.agg #[.int .i64 n0, .int .i64 n1, .int .i64 n2, .int .i64 n3, .int .i64 n4, .int .i64 n5, .int .i64 n6, .bool n7, .int .i64 ad, .int .i64 st, .int .i64 lf, .slice b l.length c]]) (by simp [e1]) ?_
      refine ((HIR W (Nb.out.kept hC)).out).mono ?_
      rintro e W' ⟨rfl, h⟩
      exact ⟨_, rfl, _, rfl, hC.trans (h.mono hC.size), h, rfl⟩
    · have e1 : a1.eval (.tmp 5) = .pointer (some ⟨S5, 0, none⟩) := (hK.old 5 (by kernel_rfl)).trans rfl
      exact ob_load_row 27 (.tmp 5) rfl S5 e1 27 [.int .i64 n0, .int .i64 n1, .int .i64 n2, .int .i64 n3, .int .i64 n4, .int .i64 n5, .int .i64 n6, .bool n7, .int .i64 ad, .int .i64 st, .int .i64 lf, .slice b l.length c] (J5.out W hC) _ Try.underlying27 rfl (by kernel_rfl) ⟨_, rfl, hC, Below.refl _ _, rfl⟩
    · skip
      have e1 : a1.eval (.tmp 77) = .agg #[.int .i64 n0, .int .i64 n1, .int .i64 n2, .int .i64 n3, .int .i64 n4, .int .i64 n5, .int .i64 n6, .bool n7, .int .i64 ad, .int .i64 st, .int .i64 lf, .slice b l.length c] := hK.get 35 77 (by kernel_rfl) rfl rfl (by kernel_rfl)
      refine ob_call rfl Try.func25 (by kernel_rfl) (by kernel_rfl) (vals := #[.agg #[.int .i64 n0, .int .i64 n1, .int .i64 n2, .int .i64 n3, .int .i64 n4, .int .i64 n5, .int .i64 n6, .bool n7, .int .i64 ad, .int .i64 st, .int .i64 lf, .slice b l.length c]]) (by simp [e1]) ?_
      refine ((HSR W (Nb.out.kept hC)).out).mono ?_
      rintro e W' ⟨rfl, h⟩
      exact ⟨_, rfl, _, rfl, hC.trans (h.mono hC.size), h, rfl⟩
    · skip
      have e1 : a1.eval (.tmp 76) = .bool rB := hK.get 34 76 (by kernel_rfl) rfl rfl (by kernel_rfl)
      have e2 : a1.eval (.tmp 78) = .bool rB := hK.get 36 78 (by kernel_rfl) rfl rfl (by kernel_rfl)
      simp only [Act.eval, Array.getD_eq_getD_getElem?] at e1 e2
      exact ob_value (v := .bool false) (w' := W) (by simp [execOp, go_sem, e1, e2]) ⟨_, rfl, hC, Below.refl _ _, rfl⟩
    · skip
      have e1 : a1.eval (.tmp 74) = .bool false := hK.get 32 74 (by kernel_rfl) rfl rfl (by kernel_rfl)
      have e2 : a1.eval (.tmp 79) = .bool false := hK.get 37 79 (by kernel_rfl) rfl rfl (by kernel_rfl)
      simp only [Act.eval, Array.getD_eq_getD_getElem?] at e1 e2
      exact ob_value (v := .bool false) (w' := W) (by simp [execOp, go_sem, e1, e2]) ⟨_, rfl, hC, Below.refl _ _, rfl⟩
  · intro vs W hC hT
    have ex : vs 38 = .bool false := hT 38 (by decide)
    simp only [fillL, if_true, Act.put, List.setIfInBounds_toArray, List.set_cons_zero, List.set_cons_succ, ex]
    clear hT ex HSH HIT HST HSR HIR HIN HSN HIK HSK
    have HSQ := fun W h => Lib.hid (specClaimRight_any ⟨q0, q1, q2, q3, q4, q5, q6, q7⟩ qad qst qlf qb qc ql W h hq7)
    rcases hqB : clB ⟨⟨q0, q1, q2, q3, q4, q5, q6, q7⟩, qad, qst, qlf, ql⟩
    · rw [hqB] at HSQ
      unfold clV at HSQ
      dsimp only at HSQ
      go_wp2_with (first
        | ((with_reducible refine @id (wpList _ _ _ (Oper.mk _ (Op.load 27 (.tmp 11)) _ _ _ _ :: _) _ _) ?_); refine wpList_load_at (by kernel_rfl) 27 (.tmp 11) rfl (S11) 0 rfl 27 #[.int .i64 q0, .int .i64 q1, .int .i64 q2, .int .i64 q3, .int .i64 q4, .int .i64 q5, .int .i64 q6, .bool q7, .int .i64 qad, .int .i64 qst, .int .i64 qlf, .slice qb ql.length qc] (0, 0) (J11.out W hC) [.int .i64 q0, .int .i64 q1, .int .i64 q2, .int .i64 q3, .int .i64 q4, .int .i64 q5, .int .i64 q6, .bool q7, .int .i64 qad, .int .i64 qst, .int .i64 qlf, .slice qb ql.length qc] rfl _ Try.underlying27 rfl (by kernel_rfl) ?_))
      refine (HSQ W (Nqb.out.kept hC)).out.mono ?_
      rintro e w2 ⟨rfl, h2⟩
      have hC2 := hC.trans (h2.mono hC.size)
      clear h2
      by_cases hdC : dC = 0
      · subst hdC
        obtain ⟨c1, c2, c3⟩ := hearO_ok HD.out
        rcases hsm : sameN ⟨n0, n1, n2, n3, n4, n5, n6, n7⟩ ⟨m0, m1, m2, m3, m4, m5, m6, m7⟩
        · have HSame := Lib.hid (show false = sameN ⟨n0, n1, n2, n3, n4, n5, n6, n7⟩ ⟨m0, m1, m2, m3, m4, m5, m6, m7⟩ from hsm.symm)
          unfold sameN at HSame
          dsimp only at HSame
          have c4 := c3
          dsimp only at c4
          rw [hsm] at c4
          by_cases hsa : src = ad ∧ st ≠ 3
          · obtain ⟨hsa, h3⟩ := hsa
            have h1 := hear_one (m := ⟨m0, m1, m2, m3, m4, m5, m6, m7⟩) c1 hsa h3
            rw [c4] at h1
            dsimp only at h1
            rw [← less_form (clB_of c1).1 c2] at h1
            obtain ⟨hS, hA⟩ := h1
            subst hS
            have HNL := fun W => Lib.hid (implNameLess_any ⟨n0, n1, n2, n3, n4, n5, n6, n7⟩ ⟨m0, m1, m2, m3, m4, m5, m6, m7⟩ W)
            generalize nmLessB ⟨n0, n1, n2, n3, n4, n5, n6, n7⟩ ⟨m0, m1, m2, m3, m4, m5, m6, m7⟩ = r at hA HNL
            unfold nmV at HNL
            dsimp only at HNL
            have hA2 : (dad == ad) = r := hA
            have eS : (src != ad) = false := by simp [hsa]
            have eT : (st == 3) = false := by simpa using h3
            clear c1 c2 c3 c4 hsm hsa h3 hA
            go_wp2_with (first
              | ((with_reducible refine @id (wpList _ _ _ (Oper.mk _ (Op.load 2 (.tmp 103)) _ _ _ _ :: _) _ _) ?_); refine wpList_load_one (by kernel_rfl) 2 (.tmp 103) rfl (S8) 13 rfl 31 #[.int .i64 d0, .int .i64 d1, .int .i64 d2, .int .i64 d3, .int .i64 d4, .int .i64 d5, .int .i64 d6, .bool d7, .int .i64 dad, .int .i64 dst, .int .i64 dlf, .slice xa dl.length xc, .bool true, .int .i64 0] (0, 0) (J8.out w2 hC2) (.int .i64 0) rfl _ Try.underlying2 rfl (by kernel_rfl) ?_)
              | ((with_reducible refine @id (wpList _ _ _ (Oper.mk _ (Op.load 24 (.tmp 107)) _ _ _ _ :: _) _ _) ?_); refine wpList_load_at (by kernel_rfl) 24 (.tmp 107) rfl (S5) 0 rfl 27 #[.int .i64 n0, .int .i64 n1, .int .i64 n2, .int .i64 n3, .int .i64 n4, .int .i64 n5, .int .i64 n6, .bool n7, .int .i64 ad, .int .i64 st, .int .i64 lf, .slice b l.length c] (0, 0) (J5.out w2 hC2) [.int .i64 n0, .int .i64 n1, .int .i64 n2, .int .i64 n3, .int .i64 n4, .int .i64 n5, .int .i64 n6, .bool n7] rfl _ Try.underlying24 rfl (by kernel_rfl) ?_)
              | ((with_reducible refine @id (wpList _ _ _ (Oper.mk _ (Op.load 24 (.tmp 7)) _ _ _ _ :: _) _ _) ?_); refine wpList_load_at (by kernel_rfl) 24 (.tmp 7) rfl (S7) 0 rfl 24 #[.int .i64 m0, .int .i64 m1, .int .i64 m2, .int .i64 m3, .int .i64 m4, .int .i64 m5, .int .i64 m6, .bool m7] (0, 0) (J7.out w2 hC2) [.int .i64 m0, .int .i64 m1, .int .i64 m2, .int .i64 m3, .int .i64 m4, .int .i64 m5, .int .i64 m6, .bool m7] rfl _ Try.underlying24 rfl (by kernel_rfl) ?_)
              | ((with_reducible refine @id (wpList _ _ _ (Oper.mk _ (Op.binOp _ _ _ _ _) _ _ _ _ :: _) _ _) ?_); refine wpList_eql_nm (by kernel_rfl) (.tmp 108) (.tmp 109) _ rfl n0 n1 n2 n3 n4 n5 n6 m0 m1 m2 m3 m4 m5 m6 n7 m7 rfl rfl false HSame.out ?_)
              | ((with_reducible refine @id (wpList _ _ _ (Oper.mk _ (Op.load 2 (.tmp 114)) _ _ _ _ :: _) _ _) ?_); refine wpList_load_one (by kernel_rfl) 2 (.tmp 114) rfl (S5) 8 rfl 27 #[.int .i64 n0, .int .i64 n1, .int .i64 n2, .int .i64 n3, .int .i64 n4, .int .i64 n5, .int .i64 n6, .bool n7, .int .i64 ad, .int .i64 st, .int .i64 lf, .slice b l.length c] (0, 0) (J5.out w2 hC2) (.int .i64 ad) rfl _ Try.underlying2 rfl (by kernel_rfl) ?_)
              | ((with_reducible refine @id (wpList _ _ _ (Oper.mk _ (Op.load 2 (.tmp 119)) _ _ _ _ :: _) _ _) ?_); refine wpList_load_one (by kernel_rfl) 2 (.tmp 119) rfl (S5) 9 rfl 27 #[.int .i64 n0, .int .i64 n1, .int .i64 n2, .int .i64 n3, .int .i64 n4, .int .i64 n5, .int .i64 n6, .bool n7, .int .i64 ad, .int .i64 st, .int .i64 lf, .slice b l.length c] (0, 0) (J5.out w2 hC2) (.int .i64 st) rfl _ Try.underlying2 rfl (by kernel_rfl) ?_)
              | ((with_reducible refine @id (wpList _ _ _ (Oper.mk _ (Op.load 2 (.tmp 123)) _ _ _ _ :: _) _ _) ?_); refine wpList_load_one (by kernel_rfl) 2 (.tmp 123) rfl (S8) 13 rfl 31 #[.int .i64 d0, .int .i64 d1, .int .i64 d2, .int .i64 d3, .int .i64 d4, .int .i64 d5, .int .i64 d6, .bool d7, .int .i64 dad, .int .i64 dst, .int .i64 dlf, .slice xa dl.length xc, .bool true, .int .i64 0] (0, 0) (J8.out w2 hC2) (.int .i64 0) rfl _ Try.underlying2 rfl (by kernel_rfl) ?_)
              | ((with_reducible refine @id (wpList _ _ _ (Oper.mk _ (Op.load 2 (.tmp 128)) _ _ _ _ :: _) _ _) ?_); refine wpList_load_one (by kernel_rfl) 2 (.tmp 128) rfl (S8) 8 rfl 31 #[.int .i64 d0, .int .i64 d1, .int .i64 d2, .int .i64 d3, .int .i64 d4, .int .i64 d5, .int .i64 d6, .bool d7, .int .i64 dad, .int .i64 dst, .int .i64 dlf, .slice xa dl.length xc, .bool true, .int .i64 0] (0, 0) (J8.out w2 hC2) (.int .i64 dad) rfl _ Try.underlying2 rfl (by kernel_rfl) ?_)
              | ((with_reducible refine @id (wpList _ _ _ (Oper.mk _ (Op.load 2 (.tmp 130)) _ _ _ _ :: _) _ _) ?_); refine wpList_load_one (by kernel_rfl) 2 (.tmp 130) rfl (S5) 8 rfl 27 #[.int .i64 n0, .int .i64 n1, .int .i64 n2, .int .i64 n3, .int .i64 n4, .int .i64 n5, .int .i64 n6, .bool n7, .int .i64 ad, .int .i64 st, .int .i64 lf, .slice b l.length c] (0, 0) (J5.out w2 hC2) (.int .i64 ad) rfl _ Try.underlying2 rfl (by kernel_rfl) ?_))
            refine wp_region_anyordG (fun W => Below U.heap.size U W) (fun W W' => Below W.heap.size W W') (fun i _ v => v = (#[.pointer (some ⟨S8, 12, none⟩), .bool true, .bool true, .pointer (some ⟨S8, 0, none⟩), .pointer (some ⟨S8, 8, none⟩), .int .i64 dad, .pointer (some ⟨S5, 8, none⟩), .int .i64 ad, .bool r, .pointer (some ⟨S5, 0, none⟩), .agg #[.int .i64 n0, .int .i64 n1, .int .i64 n2, .int .i64 n3, .int .i64 n4, .int .i64 n5, .int .i64 n6, .bool n7], .agg #[.int .i64 m0, .int .i64 m1, .int .i64 m2, .int .i64 m3, .int .i64 m4, .int .i64 m5, .int .i64 m6, .bool m7], .bool r, .bool true, .bool true, .bool true] : Array Value).getD i undef) (by kernel_rfl) (by kernel_rfl) (by kernel_rfl) (fun _ _ _ _ _ h => h) hC2.drew ?_ ?_
            · refine ⟨⟨.inl rfl, fun a1 W hC hK => ?_⟩, ⟨.inl rfl, fun a1 W hC hK => ?_⟩, ⟨.inl rfl, fun a1 W hC hK => ?_⟩, ⟨GuardOn.on 2 true 136 (fun _ _ h => h) rfl (by kernel_rfl) rfl rfl (by kernel_rfl), fun a1 W hC hK => ?_⟩, ⟨GuardOn.on 2 true 136 (fun _ _ h => h) rfl (by kernel_rfl) rfl rfl (by kernel_rfl), fun a1 W hC hK => ?_⟩, ⟨GuardOn.on 2 true 136 (fun _ _ h => h) rfl (by kernel_rfl) rfl rfl (by kernel_rfl), fun a1 W hC hK => ?_⟩, ⟨GuardOn.on 2 true 136 (fun _ _ h => h) rfl (by kernel_rfl) rfl rfl (by kernel_rfl), fun a1 W hC hK => ?_⟩, ⟨GuardOn.on 2 true 136 (fun _ _ h => h) rfl (by kernel_rfl) rfl rfl (by kernel_rfl), fun a1 W hC hK => ?_⟩, ⟨GuardOn.on 2 true 136 (fun _ _ h => h) rfl (by kernel_rfl) rfl rfl (by kernel_rfl), fun a1 W hC hK => ?_⟩, ⟨GuardOn.on 2 true 136 (fun _ _ h => h) rfl (by kernel_rfl) rfl rfl (by kernel_rfl), fun a1 W hC hK => ?_⟩, ⟨GuardOn.on 2 true 136 (fun _ _ h => h) rfl (by kernel_rfl) rfl rfl (by kernel_rfl), fun a1 W hC hK => ?_⟩, ⟨GuardOn.on 2 true 136 (fun _ _ h => h) rfl (by kernel_rfl) rfl rfl (by kernel_rfl), fun a1 W hC hK => ?_⟩, ⟨GuardOn.on 2 true 136 (fun _ _ h => h) rfl (by kernel_rfl) rfl rfl (by kernel_rfl), fun a1 W hC hK => ?_⟩, ⟨GuardOn.on 2 true 136 (fun _ _ h => h) rfl (by kernel_rfl) rfl rfl (by kernel_rfl), fun a1 W hC hK => ?_⟩, ⟨.inl rfl, fun a1 W hC hK => ?_⟩, ⟨.inl rfl, fun a1 W hC hK => ?_⟩, trivial⟩
              · skip
                have e1 : a1.eval (.tmp 8) = .pointer (some ⟨S8, 0, none⟩) := (hK.old 8 (by kernel_rfl)).trans rfl
                simp only [Act.eval, Array.getD_eq_getD_getElem?] at e1
                exact ob_value (v := .pointer (some ⟨S8, 12, none⟩)) (w' := W) (by simp [execOp, go_sem, e1]) ⟨_, rfl, hC, Below.refl _ _, rfl⟩
              · skip
                have e1 : a1.eval (.tmp 134) = .pointer (some ⟨S8, 12, none⟩) := hK.get 0 134 (by kernel_rfl) rfl rfl (by kernel_rfl)
                have hcl : W.cell? ⟨S8, 12, none⟩ = some (.bool true) := (cell_of_row W S8 12 _ _ (0, 0) (J8.out W hC)).trans rfl
                simp only [Act.eval, Array.getD_eq_getD_getElem?] at e1
                exact ob_value (v := .bool true) (w' := W) (by simp [execOp, go_sem, e1, hcl]) ⟨_, rfl, hC, Below.refl _ _, rfl⟩
              · skip
                have e1 : a1.eval (.tmp 135) = .bool true := hK.get 1 135 (by kernel_rfl) rfl rfl (by kernel_rfl)
                exact ob_move rfl ⟨_, rfl, hC, Below.refl _ _, e1⟩
              · skip
                have e1 : a1.eval (.tmp 8) = .pointer (some ⟨S8, 0, none⟩) := (hK.old 8 (by kernel_rfl)).trans rfl
                simp only [Act.eval, Array.getD_eq_getD_getElem?] at e1
                exact ob_value (v := .pointer (some ⟨S8, 0, none⟩)) (w' := W) (by simp [execOp, go_sem, e1]) ⟨_, rfl, hC, Below.refl _ _, rfl⟩
              · skip
                have e1 : a1.eval (.tmp 137) = .pointer (some ⟨S8, 0, none⟩) := hK.get 3 137 (by kernel_rfl) rfl rfl (by kernel_rfl)
                simp only [Act.eval, Array.getD_eq_getD_getElem?] at e1
                exact ob_value (v := .pointer (some ⟨S8, 8, none⟩)) (w' := W) (by simp [execOp, go_sem, e1]) ⟨_, rfl, hC, Below.refl _ _, rfl⟩
              · skip
                have e1 : a1.eval (.tmp 138) = .pointer (some ⟨S8, 8, none⟩) := hK.get 4 138 (by kernel_rfl) rfl rfl (by kernel_rfl)
                have hcl : W.cell? ⟨S8, 8, none⟩ = some (.int .i64 dad) := (cell_of_row W S8 8 _ _ (0, 0) (J8.out W hC)).trans rfl
                simp only [Act.eval, Array.getD_eq_getD_getElem?] at e1
                exact ob_value (v := .int .i64 dad) (w' := W) (by simp [execOp, go_sem, e1, hcl]) ⟨_, rfl, hC, Below.refl _ _, rfl⟩
              · skip
                have e1 : a1.eval (.tmp 5) = .pointer (some ⟨S5, 0, none⟩) := (hK.old 5 (by kernel_rfl)).trans rfl
                simp only [Act.eval, Array.getD_eq_getD_getElem?] at e1
                exact ob_value (v := .pointer (some ⟨S5, 8, none⟩)) (w' := W) (by simp [execOp, go_sem, e1]) ⟨_, rfl, hC, Below.refl _ _, rfl⟩
              · skip
                have e1 : a1.eval (.tmp 140) = .pointer (some ⟨S5, 8, none⟩) := hK.get 6 140 (by kernel_rfl) rfl rfl (by kernel_rfl)
                have hcl : W.cell? ⟨S5, 8, none⟩ = some (.int .i64 ad) := (cell_of_row W S5 8 _ _ (0, 0) (J5.out W hC)).trans rfl
                simp only [Act.eval, Array.getD_eq_getD_getElem?] at e1
                exact ob_value (v := .int .i64 ad) (w' := W) (by simp [execOp, go_sem, e1, hcl]) ⟨_, rfl, hC, Below.refl _ _, rfl⟩
              · skip
                have e1 : a1.eval (.tmp 139) = .int .i64 dad := hK.get 5 139 (by kernel_rfl) rfl rfl (by kernel_rfl)
                have e2 : a1.eval (.tmp 141) = .int .i64 ad := hK.get 7 141 (by kernel_rfl) rfl rfl (by kernel_rfl)
                simp only [Act.eval, Array.getD_eq_getD_getElem?] at e1 e2
                exact ob_value (v := .bool r) (w' := W) (by simp [execOp, go_sem, e1, e2, hA2]) ⟨_, rfl, hC, Below.refl _ _, rfl⟩
              · skip
                have e1 : a1.eval (.tmp 5) = .pointer (some ⟨S5, 0, none⟩) := (hK.old 5 (by kernel_rfl)).trans rfl
                simp only [Act.eval, Array.getD_eq_getD_getElem?] at e1
                exact ob_value (v := .pointer (some ⟨S5, 0, none⟩)) (w' := W) (by simp [execOp, go_sem, e1]) ⟨_, rfl, hC, Below.refl _ _, rfl⟩
              · skip
                have e1 : a1.eval (.tmp 143) = .pointer (some ⟨S5, 0, none⟩) := hK.get 9 143 (by kernel_rfl) rfl rfl (by kernel_rfl)
                exact wp_load_mid 24 (.tmp 143) rfl S5 0 e1 [.int .i64 n0, .int .i64 n1, .int .i64 n2, .int .i64 n3, .int .i64 n4, .int .i64 n5, .int .i64 n6, .bool n7] _ (fun j v hv => by
                  have hl : j < 8 := by simpa using (List.getElem?_eq_some_iff.1 hv).1
                  rw [cell_of_row W S5 (0 + j) _ _ (0, 0) (J5.out W hC)]
                  match j, hl, hv with
                  | 0, _, hv => exact hv
                  | 1, _, hv => exact hv
                  | 2, _, hv => exact hv
                  | 3, _, hv => exact hv
                  | 4, _, hv => exact hv
                  | 5, _, hv => exact hv
                  | 6, _, hv => exact hv
                  | 7, _, hv => exact hv) Try.underlying24 rfl (by kernel_rfl) ⟨_, rfl, hC, Below.refl _ _, rfl⟩
              · skip
                have e1 : a1.eval (.tmp 7) = .pointer (some ⟨S7, 0, none⟩) := (hK.old 7 (by kernel_rfl)).trans rfl
                exact wp_load_mid 24 (.tmp 7) rfl S7 0 e1 [.int .i64 m0, .int .i64 m1, .int .i64 m2, .int .i64 m3, .int .i64 m4, .int .i64 m5, .int .i64 m6, .bool m7] _ (fun j v hv => by
                  have hl : j < 8 := by simpa using (List.getElem?_eq_some_iff.1 hv).1
                  rw [cell_of_row W S7 (0 + j) _ _ (0, 0) (J7.out W hC)]
                  match j, hl, hv with
                  | 0, _, hv => exact hv
                  | 1, _, hv => exact hv
                  | 2, _, hv => exact hv
                  | 3, _, hv => exact hv
                  | 4, _, hv => exact hv
                  | 5, _, hv => exact hv
                  | 6, _, hv => exact hv
                  | 7, _, hv => exact hv) Try.underlying24 rfl (by kernel_rfl) ⟨_, rfl, hC, Below.refl _ _, rfl⟩
              · have e1 : a1.eval (.tmp 144) = .agg #[.int .i64 n0, .int .i64 n1, .int .i64 n2, .int .i64 n3, .int .i64 n4, .int .i64 n5, .int .i64 n6, .bool n7] := hK.get 10 144 (by kernel_rfl) rfl rfl (by kernel_rfl)
                have e2 : a1.eval (.tmp 145) = .agg #[.int .i64 m0, .int .i64 m1, .int .i64 m2, .int .i64 m3, .int .i64 m4, .int .i64 m5, .int .i64 m6, .bool m7] := hK.get 11 145 (by kernel_rfl) rfl rfl (by kernel_rfl)
                refine ob_call rfl Try.func26 (by kernel_rfl) (by kernel_rfl) (vals := #[.agg #[.int .i64 n0, .int .i64 n1, .int .i64 n2, .int .i64 n3, .int .i64 n4, .int .i64 n5, .int .i64 n6, .bool n7], .agg #[.int .i64 m0, .int .i64 m1, .int .i64 m2, .int .i64 m3, .int .i64 m4, .int .i64 m5, .int .i64 m6, .bool m7]]) (by simp [e1, e2]) ?_
                refine (HNL W).out.mono ?_
                rintro e W' ⟨rfl, h⟩
                exact ⟨_, rfl, _, rfl, hC.trans (h.mono hC.size), h, rfl⟩
              · skip
                have e1 : a1.eval (.tmp 142) = .bool r := hK.get 8 142 (by kernel_rfl) rfl rfl (by kernel_rfl)
                have e2 : a1.eval (.tmp 146) = .bool r := hK.get 12 146 (by kernel_rfl) rfl rfl (by kernel_rfl)
                simp only [Act.eval, Array.getD_eq_getD_getElem?] at e1 e2
                exact ob_value (v := .bool true) (w' := W) (by simp [execOp, go_sem, e1, e2]) ⟨_, rfl, hC, Below.refl _ _, rfl⟩
              · skip
                have e1 : a1.eval (.tmp 136) = .bool true := hK.get 2 136 (by kernel_rfl) rfl rfl (by kernel_rfl)
                have e2 : a1.eval (.tmp 147) = .bool true := hK.get 13 147 (by kernel_rfl) rfl rfl (by kernel_rfl)
                simp only [Act.eval, Array.getD_eq_getD_getElem?] at e1 e2
                exact ob_value (v := .bool true) (w' := W) (by simp [execOp, go_sem, e1, e2]) ⟨_, rfl, hC, Below.refl _ _, rfl⟩
              · skip
                have e1 : a1.eval (.tmp 148) = .bool true := hK.get 14 148 (by kernel_rfl) rfl rfl (by kernel_rfl)
                exact ob_value (BigFrame.run_assign _ rfl W) ⟨_, rfl, hC, Below.refl _ _, e1⟩
            · intro vs W2 hC9 hT
              have ex : vs 15 = .bool true := hT 15 (by decide)
              simp only [fillL, if_true, Act.put, List.setIfInBounds_toArray, List.set_cons_zero, List.set_cons_succ, ex]
              clear hT ex
              go_wp2_with fail
              go_ret
              exact ⟨rfl, HB.out.trans (hC9.mono HB.out.size)⟩
          · have ho : src ≠ ad ∨ st = 3 := (Classical.em (src = ad)).elim (fun h => .inr (Classical.byContradiction fun h3 => hsa ⟨h, h3⟩)) (fun h => .inl h)
            have hda := congrArg (fun p : Cl × Bool => p.1.ad) ((hearC_off (n := ⟨n0, n1, n2, n3, n4, n5, n6, n7⟩) (lf := lf) (l := l) (m := ⟨m0, m1, m2, m3, m4, m5, m6, m7⟩) ho).symm.trans c4)
            dsimp only at hda
            have eA : (dad == ad) = true := by simp [hda]
            clear c1 c2 c3 c4 hsm hsa hda
            by_cases hsa : src = ad
            · have eS : (src != ad) = false := by simp [hsa]
              have eT : (st == 3) = true := by rcases ho with h | h; exact absurd hsa h; simp [h]
              clear hsa ho
              go_wp2_with (first
                | ((with_reducible refine @id (wpList _ _ _ (Oper.mk _ (Op.load 2 (.tmp 103)) _ _ _ _ :: _) _ _) ?_); refine wpList_load_one (by kernel_rfl) 2 (.tmp 103) rfl (S8) 13 rfl 31 #[.int .i64 d0, .int .i64 d1, .int .i64 d2, .int .i64 d3, .int .i64 d4, .int .i64 d5, .int .i64 d6, .bool d7, .int .i64 dad, .int .i64 dst, .int .i64 dlf, .slice xa dl.length xc, .bool dS, .int .i64 0] (0, 0) (J8.out w2 hC2) (.int .i64 0) rfl _ Try.underlying2 rfl (by kernel_rfl) ?_)
                | ((with_reducible refine @id (wpList _ _ _ (Oper.mk _ (Op.load 24 (.tmp 107)) _ _ _ _ :: _) _ _) ?_); refine wpList_load_at (by kernel_rfl) 24 (.tmp 107) rfl (S5) 0 rfl 27 #[.int .i64 n0, .int .i64 n1, .int .i64 n2, .int .i64 n3, .int .i64 n4, .int .i64 n5, .int .i64 n6, .bool n7, .int .i64 ad, .int .i64 st, .int .i64 lf, .slice b l.length c] (0, 0) (J5.out w2 hC2) [.int .i64 n0, .int .i64 n1, .int .i64 n2, .int .i64 n3, .int .i64 n4, .int .i64 n5, .int .i64 n6, .bool n7] rfl _ Try.underlying24 rfl (by kernel_rfl) ?_)
                | ((with_reducible refine @id (wpList _ _ _ (Oper.mk _ (Op.load 24 (.tmp 7)) _ _ _ _ :: _) _ _) ?_); refine wpList_load_at (by kernel_rfl) 24 (.tmp 7) rfl (S7) 0 rfl 24 #[.int .i64 m0, .int .i64 m1, .int .i64 m2, .int .i64 m3, .int .i64 m4, .int .i64 m5, .int .i64 m6, .bool m7] (0, 0) (J7.out w2 hC2) [.int .i64 m0, .int .i64 m1, .int .i64 m2, .int .i64 m3, .int .i64 m4, .int .i64 m5, .int .i64 m6, .bool m7] rfl _ Try.underlying24 rfl (by kernel_rfl) ?_)
                | ((with_reducible refine @id (wpList _ _ _ (Oper.mk _ (Op.binOp _ _ _ _ _) _ _ _ _ :: _) _ _) ?_); refine wpList_eql_nm (by kernel_rfl) (.tmp 108) (.tmp 109) _ rfl n0 n1 n2 n3 n4 n5 n6 m0 m1 m2 m3 m4 m5 m6 n7 m7 rfl rfl false HSame.out ?_)
                | ((with_reducible refine @id (wpList _ _ _ (Oper.mk _ (Op.load 2 (.tmp 114)) _ _ _ _ :: _) _ _) ?_); refine wpList_load_one (by kernel_rfl) 2 (.tmp 114) rfl (S5) 8 rfl 27 #[.int .i64 n0, .int .i64 n1, .int .i64 n2, .int .i64 n3, .int .i64 n4, .int .i64 n5, .int .i64 n6, .bool n7, .int .i64 ad, .int .i64 st, .int .i64 lf, .slice b l.length c] (0, 0) (J5.out w2 hC2) (.int .i64 ad) rfl _ Try.underlying2 rfl (by kernel_rfl) ?_)
                | ((with_reducible refine @id (wpList _ _ _ (Oper.mk _ (Op.load 2 (.tmp 119)) _ _ _ _ :: _) _ _) ?_); refine wpList_load_one (by kernel_rfl) 2 (.tmp 119) rfl (S5) 9 rfl 27 #[.int .i64 n0, .int .i64 n1, .int .i64 n2, .int .i64 n3, .int .i64 n4, .int .i64 n5, .int .i64 n6, .bool n7, .int .i64 ad, .int .i64 st, .int .i64 lf, .slice b l.length c] (0, 0) (J5.out w2 hC2) (.int .i64 st) rfl _ Try.underlying2 rfl (by kernel_rfl) ?_)
                | ((with_reducible refine @id (wpList _ _ _ (Oper.mk _ (Op.load 2 (.tmp 123)) _ _ _ _ :: _) _ _) ?_); refine wpList_load_one (by kernel_rfl) 2 (.tmp 123) rfl (S8) 13 rfl 31 #[.int .i64 d0, .int .i64 d1, .int .i64 d2, .int .i64 d3, .int .i64 d4, .int .i64 d5, .int .i64 d6, .bool d7, .int .i64 dad, .int .i64 dst, .int .i64 dlf, .slice xa dl.length xc, .bool dS, .int .i64 0] (0, 0) (J8.out w2 hC2) (.int .i64 0) rfl _ Try.underlying2 rfl (by kernel_rfl) ?_)
                | ((with_reducible refine @id (wpList _ _ _ (Oper.mk _ (Op.load 2 (.tmp 128)) _ _ _ _ :: _) _ _) ?_); refine wpList_load_one (by kernel_rfl) 2 (.tmp 128) rfl (S8) 8 rfl 31 #[.int .i64 d0, .int .i64 d1, .int .i64 d2, .int .i64 d3, .int .i64 d4, .int .i64 d5, .int .i64 d6, .bool d7, .int .i64 dad, .int .i64 dst, .int .i64 dlf, .slice xa dl.length xc, .bool dS, .int .i64 0] (0, 0) (J8.out w2 hC2) (.int .i64 dad) rfl _ Try.underlying2 rfl (by kernel_rfl) ?_)
                | ((with_reducible refine @id (wpList _ _ _ (Oper.mk _ (Op.load 2 (.tmp 130)) _ _ _ _ :: _) _ _) ?_); refine wpList_load_one (by kernel_rfl) 2 (.tmp 130) rfl (S5) 8 rfl 27 #[.int .i64 n0, .int .i64 n1, .int .i64 n2, .int .i64 n3, .int .i64 n4, .int .i64 n5, .int .i64 n6, .bool n7, .int .i64 ad, .int .i64 st, .int .i64 lf, .slice b l.length c] (0, 0) (J5.out w2 hC2) (.int .i64 ad) rfl _ Try.underlying2 rfl (by kernel_rfl) ?_))
              go_ret
              exact ⟨rfl, HB.out.trans (hC2.mono HB.out.size)⟩
            · have eS : (src != ad) = true := by simpa using hsa
              clear hsa ho
              go_wp2_with (first
                | ((with_reducible refine @id (wpList _ _ _ (Oper.mk _ (Op.load 2 (.tmp 103)) _ _ _ _ :: _) _ _) ?_); refine wpList_load_one (by kernel_rfl) 2 (.tmp 103) rfl (S8) 13 rfl 31 #[.int .i64 d0, .int .i64 d1, .int .i64 d2, .int .i64 d3, .int .i64 d4, .int .i64 d5, .int .i64 d6, .bool d7, .int .i64 dad, .int .i64 dst, .int .i64 dlf, .slice xa dl.length xc, .bool dS, .int .i64 0] (0, 0) (J8.out w2 hC2) (.int .i64 0) rfl _ Try.underlying2 rfl (by kernel_rfl) ?_)
                | ((with_reducible refine @id (wpList _ _ _ (Oper.mk _ (Op.load 24 (.tmp 107)) _ _ _ _ :: _) _ _) ?_); refine wpList_load_at (by kernel_rfl) 24 (.tmp 107) rfl (S5) 0 rfl 27 #[.int .i64 n0, .int .i64 n1, .int .i64 n2, .int .i64 n3, .int .i64 n4, .int .i64 n5, .int .i64 n6, .bool n7, .int .i64 ad, .int .i64 st, .int .i64 lf, .slice b l.length c] (0, 0) (J5.out w2 hC2) [.int .i64 n0, .int .i64 n1, .int .i64 n2, .int .i64 n3, .int .i64 n4, .int .i64 n5, .int .i64 n6, .bool n7] rfl _ Try.underlying24 rfl (by kernel_rfl) ?_)
                | ((with_reducible refine @id (wpList _ _ _ (Oper.mk _ (Op.load 24 (.tmp 7)) _ _ _ _ :: _) _ _) ?_); refine wpList_load_at (by kernel_rfl) 24 (.tmp 7) rfl (S7) 0 rfl 24 #[.int .i64 m0, .int .i64 m1, .int .i64 m2, .int .i64 m3, .int .i64 m4, .int .i64 m5, .int .i64 m6, .bool m7] (0, 0) (J7.out w2 hC2) [.int .i64 m0, .int .i64 m1, .int .i64 m2, .int .i64 m3, .int .i64 m4, .int .i64 m5, .int .i64 m6, .bool m7] rfl _ Try.underlying24 rfl (by kernel_rfl) ?_)
                | ((with_reducible refine @id (wpList _ _ _ (Oper.mk _ (Op.binOp _ _ _ _ _) _ _ _ _ :: _) _ _) ?_); refine wpList_eql_nm (by kernel_rfl) (.tmp 108) (.tmp 109) _ rfl n0 n1 n2 n3 n4 n5 n6 m0 m1 m2 m3 m4 m5 m6 n7 m7 rfl rfl false HSame.out ?_)
                | ((with_reducible refine @id (wpList _ _ _ (Oper.mk _ (Op.load 2 (.tmp 114)) _ _ _ _ :: _) _ _) ?_); refine wpList_load_one (by kernel_rfl) 2 (.tmp 114) rfl (S5) 8 rfl 27 #[.int .i64 n0, .int .i64 n1, .int .i64 n2, .int .i64 n3, .int .i64 n4, .int .i64 n5, .int .i64 n6, .bool n7, .int .i64 ad, .int .i64 st, .int .i64 lf, .slice b l.length c] (0, 0) (J5.out w2 hC2) (.int .i64 ad) rfl _ Try.underlying2 rfl (by kernel_rfl) ?_)
                | ((with_reducible refine @id (wpList _ _ _ (Oper.mk _ (Op.load 2 (.tmp 119)) _ _ _ _ :: _) _ _) ?_); refine wpList_load_one (by kernel_rfl) 2 (.tmp 119) rfl (S5) 9 rfl 27 #[.int .i64 n0, .int .i64 n1, .int .i64 n2, .int .i64 n3, .int .i64 n4, .int .i64 n5, .int .i64 n6, .bool n7, .int .i64 ad, .int .i64 st, .int .i64 lf, .slice b l.length c] (0, 0) (J5.out w2 hC2) (.int .i64 st) rfl _ Try.underlying2 rfl (by kernel_rfl) ?_)
                | ((with_reducible refine @id (wpList _ _ _ (Oper.mk _ (Op.load 2 (.tmp 123)) _ _ _ _ :: _) _ _) ?_); refine wpList_load_one (by kernel_rfl) 2 (.tmp 123) rfl (S8) 13 rfl 31 #[.int .i64 d0, .int .i64 d1, .int .i64 d2, .int .i64 d3, .int .i64 d4, .int .i64 d5, .int .i64 d6, .bool d7, .int .i64 dad, .int .i64 dst, .int .i64 dlf, .slice xa dl.length xc, .bool dS, .int .i64 0] (0, 0) (J8.out w2 hC2) (.int .i64 0) rfl _ Try.underlying2 rfl (by kernel_rfl) ?_)
                | ((with_reducible refine @id (wpList _ _ _ (Oper.mk _ (Op.load 2 (.tmp 128)) _ _ _ _ :: _) _ _) ?_); refine wpList_load_one (by kernel_rfl) 2 (.tmp 128) rfl (S8) 8 rfl 31 #[.int .i64 d0, .int .i64 d1, .int .i64 d2, .int .i64 d3, .int .i64 d4, .int .i64 d5, .int .i64 d6, .bool d7, .int .i64 dad, .int .i64 dst, .int .i64 dlf, .slice xa dl.length xc, .bool dS, .int .i64 0] (0, 0) (J8.out w2 hC2) (.int .i64 dad) rfl _ Try.underlying2 rfl (by kernel_rfl) ?_)
                | ((with_reducible refine @id (wpList _ _ _ (Oper.mk _ (Op.load 2 (.tmp 130)) _ _ _ _ :: _) _ _) ?_); refine wpList_load_one (by kernel_rfl) 2 (.tmp 130) rfl (S5) 8 rfl 27 #[.int .i64 n0, .int .i64 n1, .int .i64 n2, .int .i64 n3, .int .i64 n4, .int .i64 n5, .int .i64 n6, .bool n7, .int .i64 ad, .int .i64 st, .int .i64 lf, .slice b l.length c] (0, 0) (J5.out w2 hC2) (.int .i64 ad) rfl _ Try.underlying2 rfl (by kernel_rfl) ?_))
              go_ret
              exact ⟨rfl, HB.out.trans (hC2.mono HB.out.size)⟩
        · have HSame := Lib.hid (show true = sameN ⟨n0, n1, n2, n3, n4, n5, n6, n7⟩ ⟨m0, m1, m2, m3, m4, m5, m6, m7⟩ from hsm.symm)
          unfold sameN at HSame
          dsimp only at HSame
          have c4 := c3
          dsimp only at c4
          rw [hsm] at c4
          have hda := congrArg (fun p : Cl × Bool => p.1.ad) ((hearC_same (n := ⟨n0, n1, n2, n3, n4, n5, n6, n7⟩) (ad := ad) (st := st) (lf := lf) (l := l) (s := src) (m := ⟨m0, m1, m2, m3, m4, m5, m6, m7⟩)).symm.trans c4)
          dsimp only at hda
          have eA : (dad == ad) = true := by simp [hda]
          clear c1 c2 c3 c4 hsm hda
          go_wp2_with (first
            | ((with_reducible refine @id (wpList _ _ _ (Oper.mk _ (Op.load 2 (.tmp 103)) _ _ _ _ :: _) _ _) ?_); refine wpList_load_one (by kernel_rfl) 2 (.tmp 103) rfl (S8) 13 rfl 31 #[.int .i64 d0, .int .i64 d1, .int .i64 d2, .int .i64 d3, .int .i64 d4, .int .i64 d5, .int .i64 d6, .bool d7, .int .i64 dad, .int .i64 dst, .int .i64 dlf, .slice xa dl.length xc, .bool dS, .int .i64 0] (0, 0) (J8.out w2 hC2) (.int .i64 0) rfl _ Try.underlying2 rfl (by kernel_rfl) ?_)
            | ((with_reducible refine @id (wpList _ _ _ (Oper.mk _ (Op.load 24 (.tmp 107)) _ _ _ _ :: _) _ _) ?_); refine wpList_load_at (by kernel_rfl) 24 (.tmp 107) rfl (S5) 0 rfl 27 #[.int .i64 n0, .int .i64 n1, .int .i64 n2, .int .i64 n3, .int .i64 n4, .int .i64 n5, .int .i64 n6, .bool n7, .int .i64 ad, .int .i64 st, .int .i64 lf, .slice b l.length c] (0, 0) (J5.out w2 hC2) [.int .i64 n0, .int .i64 n1, .int .i64 n2, .int .i64 n3, .int .i64 n4, .int .i64 n5, .int .i64 n6, .bool n7] rfl _ Try.underlying24 rfl (by kernel_rfl) ?_)
            | ((with_reducible refine @id (wpList _ _ _ (Oper.mk _ (Op.load 24 (.tmp 7)) _ _ _ _ :: _) _ _) ?_); refine wpList_load_at (by kernel_rfl) 24 (.tmp 7) rfl (S7) 0 rfl 24 #[.int .i64 m0, .int .i64 m1, .int .i64 m2, .int .i64 m3, .int .i64 m4, .int .i64 m5, .int .i64 m6, .bool m7] (0, 0) (J7.out w2 hC2) [.int .i64 m0, .int .i64 m1, .int .i64 m2, .int .i64 m3, .int .i64 m4, .int .i64 m5, .int .i64 m6, .bool m7] rfl _ Try.underlying24 rfl (by kernel_rfl) ?_)
            | ((with_reducible refine @id (wpList _ _ _ (Oper.mk _ (Op.binOp _ _ _ _ _) _ _ _ _ :: _) _ _) ?_); refine wpList_eql_nm (by kernel_rfl) (.tmp 108) (.tmp 109) _ rfl n0 n1 n2 n3 n4 n5 n6 m0 m1 m2 m3 m4 m5 m6 n7 m7 rfl rfl true HSame.out ?_)
            | ((with_reducible refine @id (wpList _ _ _ (Oper.mk _ (Op.load 2 (.tmp 114)) _ _ _ _ :: _) _ _) ?_); refine wpList_load_one (by kernel_rfl) 2 (.tmp 114) rfl (S5) 8 rfl 27 #[.int .i64 n0, .int .i64 n1, .int .i64 n2, .int .i64 n3, .int .i64 n4, .int .i64 n5, .int .i64 n6, .bool n7, .int .i64 ad, .int .i64 st, .int .i64 lf, .slice b l.length c] (0, 0) (J5.out w2 hC2) (.int .i64 ad) rfl _ Try.underlying2 rfl (by kernel_rfl) ?_)
            | ((with_reducible refine @id (wpList _ _ _ (Oper.mk _ (Op.load 2 (.tmp 119)) _ _ _ _ :: _) _ _) ?_); refine wpList_load_one (by kernel_rfl) 2 (.tmp 119) rfl (S5) 9 rfl 27 #[.int .i64 n0, .int .i64 n1, .int .i64 n2, .int .i64 n3, .int .i64 n4, .int .i64 n5, .int .i64 n6, .bool n7, .int .i64 ad, .int .i64 st, .int .i64 lf, .slice b l.length c] (0, 0) (J5.out w2 hC2) (.int .i64 st) rfl _ Try.underlying2 rfl (by kernel_rfl) ?_)
            | ((with_reducible refine @id (wpList _ _ _ (Oper.mk _ (Op.load 2 (.tmp 123)) _ _ _ _ :: _) _ _) ?_); refine wpList_load_one (by kernel_rfl) 2 (.tmp 123) rfl (S8) 13 rfl 31 #[.int .i64 d0, .int .i64 d1, .int .i64 d2, .int .i64 d3, .int .i64 d4, .int .i64 d5, .int .i64 d6, .bool d7, .int .i64 dad, .int .i64 dst, .int .i64 dlf, .slice xa dl.length xc, .bool dS, .int .i64 0] (0, 0) (J8.out w2 hC2) (.int .i64 0) rfl _ Try.underlying2 rfl (by kernel_rfl) ?_)
            | ((with_reducible refine @id (wpList _ _ _ (Oper.mk _ (Op.load 2 (.tmp 128)) _ _ _ _ :: _) _ _) ?_); refine wpList_load_one (by kernel_rfl) 2 (.tmp 128) rfl (S8) 8 rfl 31 #[.int .i64 d0, .int .i64 d1, .int .i64 d2, .int .i64 d3, .int .i64 d4, .int .i64 d5, .int .i64 d6, .bool d7, .int .i64 dad, .int .i64 dst, .int .i64 dlf, .slice xa dl.length xc, .bool dS, .int .i64 0] (0, 0) (J8.out w2 hC2) (.int .i64 dad) rfl _ Try.underlying2 rfl (by kernel_rfl) ?_)
            | ((with_reducible refine @id (wpList _ _ _ (Oper.mk _ (Op.load 2 (.tmp 130)) _ _ _ _ :: _) _ _) ?_); refine wpList_load_one (by kernel_rfl) 2 (.tmp 130) rfl (S5) 8 rfl 27 #[.int .i64 n0, .int .i64 n1, .int .i64 n2, .int .i64 n3, .int .i64 n4, .int .i64 n5, .int .i64 n6, .bool n7, .int .i64 ad, .int .i64 st, .int .i64 lf, .slice b l.length c] (0, 0) (J5.out w2 hC2) (.int .i64 ad) rfl _ Try.underlying2 rfl (by kernel_rfl) ?_))
          go_ret
          exact ⟨rfl, HB.out.trans (hC2.mono HB.out.size)⟩
      · have eC : (dC != 0) = true := by simpa using hdC
        go_wp2_with (first
          | ((with_reducible refine @id (wpList _ _ _ (Oper.mk _ (Op.load 2 (.tmp 103)) _ _ _ _ :: _) _ _) ?_); refine wpList_load_one (by kernel_rfl) 2 (.tmp 103) rfl (S8) 13 rfl 31 #[.int .i64 d0, .int .i64 d1, .int .i64 d2, .int .i64 d3, .int .i64 d4, .int .i64 d5, .int .i64 d6, .bool d7, .int .i64 dad, .int .i64 dst, .int .i64 dlf, .slice xa dl.length xc, .bool dS, .int .i64 dC] (0, 0) (J8.out w2 hC2) (.int .i64 dC) rfl _ Try.underlying2 rfl (by kernel_rfl) ?_)
          | ((with_reducible refine @id (wpList _ _ _ (Oper.mk _ (Op.load 2 (.tmp 123)) _ _ _ _ :: _) _ _) ?_); refine wpList_load_one (by kernel_rfl) 2 (.tmp 123) rfl (S8) 13 rfl 31 #[.int .i64 d0, .int .i64 d1, .int .i64 d2, .int .i64 d3, .int .i64 d4, .int .i64 d5, .int .i64 d6, .bool d7, .int .i64 dad, .int .i64 dst, .int .i64 dlf, .slice xa dl.length xc, .bool dS, .int .i64 dC] (0, 0) (J8.out w2 hC2) (.int .i64 dC) rfl _ Try.underlying2 rfl (by kernel_rfl) ?_))
        go_ret
        exact ⟨rfl, HB.out.trans (hC2.mono HB.out.size)⟩
    · rw [hqB] at HSQ
      unfold clV at HSQ
      dsimp only at HSQ
      go_wp2_with (first
        | ((with_reducible refine @id (wpList _ _ _ (Oper.mk _ (Op.load 27 (.tmp 11)) _ _ _ _ :: _) _ _) ?_); refine wpList_load_at (by kernel_rfl) 27 (.tmp 11) rfl (S11) 0 rfl 27 #[.int .i64 q0, .int .i64 q1, .int .i64 q2, .int .i64 q3, .int .i64 q4, .int .i64 q5, .int .i64 q6, .bool q7, .int .i64 qad, .int .i64 qst, .int .i64 qlf, .slice qb ql.length qc] (0, 0) (J11.out W hC) [.int .i64 q0, .int .i64 q1, .int .i64 q2, .int .i64 q3, .int .i64 q4, .int .i64 q5, .int .i64 q6, .bool q7, .int .i64 qad, .int .i64 qst, .int .i64 qlf, .slice qb ql.length qc] rfl _ Try.underlying27 rfl (by kernel_rfl) ?_))
      refine (HSQ W (Nqb.out.kept hC)).out.mono ?_
      rintro e w2 ⟨rfl, h2⟩
      have hC2 := hC.trans (h2.mono hC.size)
      clear h2 HSQ
      go_wp2_with (first
        | ((with_reducible refine @id (wpList _ _ _ (Oper.mk _ (Op.load 27 (.tmp 11)) _ _ _ _ :: _) _ _) ?_); refine wpList_load_at (by kernel_rfl) 27 (.tmp 11) rfl (S11) 0 rfl 27 #[.int .i64 q0, .int .i64 q1, .int .i64 q2, .int .i64 q3, .int .i64 q4, .int .i64 q5, .int .i64 q6, .bool q7, .int .i64 qad, .int .i64 qst, .int .i64 qlf, .slice qb ql.length qc] (0, 0) (J11.out w2 hC2) [.int .i64 q0, .int .i64 q1, .int .i64 q2, .int .i64 q3, .int .i64 q4, .int .i64 q5, .int .i64 q6, .bool q7, .int .i64 qad, .int .i64 qst, .int .i64 qlf, .slice qb ql.length qc] rfl _ Try.underlying27 rfl (by kernel_rfl) ?_)
        | ((with_reducible refine @id (wpList _ _ _ (Oper.mk _ (Op.alloc 31) _ _ _ _ :: _) _ _) ?_); refine wpList_alloc_h rfl 31 rfl (.agg #[.int .i64 0, .int .i64 0, .int .i64 0, .int .i64 0, .int .i64 0, .int .i64 0, .int .i64 0, .bool false, .int .i64 0, .int .i64 0, .int .i64 0, .slice none 0 0, .bool false, .int .i64 0]) (by kernel_rfl) #[.int .i64 0, .int .i64 0, .int .i64 0, .int .i64 0, .int .i64 0, .int .i64 0, .int .i64 0, .bool false, .int .i64 0, .int .i64 0, .int .i64 0, .slice none 0 0, .bool false, .int .i64 0] rfl ?_; intro w3 R13 e3 g3 b3; have HG3 := Lib.hid g3; clear g3)
        | ((with_reducible refine @id (wpList _ _ _ (Oper.mk _ (Op.store 31 (.tmp 13) (.tmp 84)) _ _ _ _ :: _) _ _) ?_); refine wpList_put_at rfl 31 (.tmp 13) (.tmp 84) rfl rfl (R13) 0 rfl (.agg #[.int .i64 q0, .int .i64 q1, .int .i64 q2, .int .i64 q3, .int .i64 q4, .int .i64 q5, .int .i64 q6, .bool q7, .int .i64 qad, .int .i64 qst, .int .i64 qlf, .slice qb ql.length qc, .bool false, .int .i64 0]) rfl #[.int .i64 q0, .int .i64 q1, .int .i64 q2, .int .i64 q3, .int .i64 q4, .int .i64 q5, .int .i64 q6, .bool q7, .int .i64 qad, .int .i64 qst, .int .i64 qlf, .slice qb ql.length qc, .bool false, .int .i64 0] rfl 31 #[.int .i64 0, .int .i64 0, .int .i64 0, .int .i64 0, .int .i64 0, .int .i64 0, .int .i64 0, .bool false, .int .i64 0, .int .i64 0, .int .i64 0, .slice none 0 0, .bool false, .int .i64 0] #[.int .i64 q0, .int .i64 q1, .int .i64 q2, .int .i64 q3, .int .i64 q4, .int .i64 q5, .int .i64 q6, .bool q7, .int .i64 qad, .int .i64 qst, .int .i64 qlf, .slice qb ql.length qc, .bool false, .int .i64 0] HG3.out (by kernel_rfl) (by kernel_rfl) (by kernel_rfl) (by kernel_rfl) ?_; intro w4 g4 o4))
      have hC3 := hC2.trans (b3.mono hC2.size)
      have hR : U.heap.size ≤ R13 := by rw [← e3]; exact hC2.size
      have hC4 := o4.below hC3 hR hC3.size
      obtain ⟨Hq, hnq, hHq⟩ := Mqb.out
      have hn4 := (hnq.kept hC3).out o4 (.inl (Nat.le_trans hHq hR))
      have hH4 := Nat.le_trans hHq hR
      clear hC2 hC3 b3 HG3 o4 e3 hnq hHq
      have hlf := left_nat hqB
      dsimp only at hlf
      obtain ⟨K, hK⟩ : ∃ K : Nat, qlf = (K : Int) := ⟨qlf.toNat, by omega⟩
      have hK2 : K ≤ 250 := by
        rcases stateB_of (clB_of hqB).2.2.2 with ⟨_, _, _, h⟩ | ⟨_, _, h⟩ | ⟨_, _, h⟩ <;> (dsimp only at h; omega)
      have HK0 := Lib.hid hK
      clear hK hlf
      go_loopw [14] (fun i wr => ∃ (k : Nat) (yst ylf : Int) (ya : Option Addr) (yc lo hi : Nat) (ys : Bool) (yC : Int), i = .int .i64 (k : Int) ∧ k ≤ K ∧ Below U.heap.size U wr ∧ ticksC k ⟨⟨q0, q1, q2, q3, q4, q5, q6, q7⟩, qad, qst, qlf, ql⟩ = ⟨⟨q0, q1, q2, q3, q4, q5, q6, q7⟩, qad, yst, ylf, ql⟩ ∧ wr.heap[R13]? = some (.cells #[.int .i64 q0, .int .i64 q1, .int .i64 q2, .int .i64 q3, .int .i64 q4, .int .i64 q5, .int .i64 q6, .bool q7, .int .i64 qad, .int .i64 yst, .int .i64 ylf, .slice ya ql.length yc, .bool ys, .int .i64 yC] 31 (0, 0)) ∧ NumsNew lo hi wr ya ql ∧ (hi ≤ R13 ∨ R13 + 1 ≤ lo)) (fun i _ => K - (intOf i).toNat)
      case atStart => exact ⟨0, qst, qlf, qb, qc, 0, Hq, false, 0, rfl, Nat.zero_le _, hC4, rfl, g4, hn4, .inl hH4⟩
      case round =>
        clear hC4 g4 hn4 hH4
        obtain ⟨k, yst, ylf, ya, yc, lo, hi, ys, yC, rfl, hk, hb, ht, hg, hn, hd⟩ := hrel
        by_cases hkn : k < K
        · have hi2 : (k : Int) < qlf := by have := HK0.out; omega
          have hck : clB ⟨⟨q0, q1, q2, q3, q4, q5, q6, q7⟩, qad, yst, ylf, ql⟩ = true := ht ▸ ticks_right k hqB
          have HT := Lib.hid (implClaimTick_any ⟨q0, q1, q2, q3, q4, q5, q6, q7⟩ qad yst ylf ya yc ql wr hn.nums hq7)
          have htk := ticksC_succ k ⟨⟨q0, q1, q2, q3, q4, q5, q6, q7⟩, qad, qst, qlf, ql⟩
          rw [ht] at htk
          obtain ⟨zst, zlf, hz⟩ : ∃ zst zlf, tickC ⟨⟨q0, q1, q2, q3, q4, q5, q6, q7⟩, qad, yst, ylf, ql⟩ = ⟨⟨q0, q1, q2, q3, q4, q5, q6, q7⟩, qad, zst, zlf, ql⟩ := ⟨_, _, tickC_form _ _ _ _ _⟩
          rw [show tickO ⟨⟨q0, q1, q2, q3, q4, q5, q6, q7⟩, qad, yst, ylf, ql⟩ = (⟨⟨q0, q1, q2, q3, q4, q5, q6, q7⟩, qad, zst, zlf, ql⟩, 0) by unfold tickO; rw [if_pos hck, hz]] at HT
          rw [hz] at htk
          unfold ClOut clOutV clV at HT
          dsimp only at HT
          have hRl : R13 < wr.heap.size := heap_is hg
          have HGk := Lib.hid hg
          clear hz hck hg
          go_wp2_with (first
            | ((with_reducible refine @id (wpList _ _ _ (Oper.mk _ (Op.load 2 (.tmp 86)) _ _ _ _ :: _) _ _) ?_); refine wpList_load_one (by kernel_rfl) 2 (.tmp 86) rfl (S11) 10 rfl 27 #[.int .i64 q0, .int .i64 q1, .int .i64 q2, .int .i64 q3, .int .i64 q4, .int .i64 q5, .int .i64 q6, .bool q7, .int .i64 qad, .int .i64 qst, .int .i64 qlf, .slice qb ql.length qc] (0, 0) (J11.out wr hb) (.int .i64 qlf) rfl _ Try.underlying2 rfl (by kernel_rfl) ?_)
            | ((with_reducible refine @id (wpList _ _ _ (Oper.mk _ (Op.load 27 (.tmp 91)) _ _ _ _ :: _) _ _) ?_); refine wpList_load_at (by kernel_rfl) 27 (.tmp 91) rfl (R13) 0 rfl 31 #[.int .i64 q0, .int .i64 q1, .int .i64 q2, .int .i64 q3, .int .i64 q4, .int .i64 q5, .int .i64 q6, .bool q7, .int .i64 qad, .int .i64 yst, .int .i64 ylf, .slice ya ql.length yc, .bool ys, .int .i64 yC] (0, 0) HGk.out [.int .i64 q0, .int .i64 q1, .int .i64 q2, .int .i64 q3, .int .i64 q4, .int .i64 q5, .int .i64 q6, .bool q7, .int .i64 qad, .int .i64 yst, .int .i64 ylf, .slice ya ql.length yc] rfl _ Try.underlying27 rfl (by kernel_rfl) ?_))
          refine HT.out.mono ?_
          rintro e w6 ⟨za, zc, rfl, hnz, h6⟩
          have g6 := Lib.hid ((h6.block R13 hRl).trans HGk.out)
          have hC6 := hb.trans (h6.mono hb.size)
          go_wp2_with (first
            | ((with_reducible refine @id (wpList _ _ _ (Oper.mk _ (Op.store 31 (.tmp 13) (.tmp 93)) _ _ _ _ :: _) _ _) ?_); refine wpList_put_at rfl 31 (.tmp 13) (.tmp 93) rfl rfl (R13) 0 rfl (.agg #[.int .i64 q0, .int .i64 q1, .int .i64 q2, .int .i64 q3, .int .i64 q4, .int .i64 q5, .int .i64 q6, .bool q7, .int .i64 qad, .int .i64 zst, .int .i64 zlf, .slice za ql.length zc, .bool false, .int .i64 0]) rfl #[.int .i64 q0, .int .i64 q1, .int .i64 q2, .int .i64 q3, .int .i64 q4, .int .i64 q5, .int .i64 q6, .bool q7, .int .i64 qad, .int .i64 zst, .int .i64 zlf, .slice za ql.length zc, .bool false, .int .i64 0] rfl 31 #[.int .i64 q0, .int .i64 q1, .int .i64 q2, .int .i64 q3, .int .i64 q4, .int .i64 q5, .int .i64 q6, .bool q7, .int .i64 qad, .int .i64 yst, .int .i64 ylf, .slice ya ql.length yc, .bool ys, .int .i64 yC] #[.int .i64 q0, .int .i64 q1, .int .i64 q2, .int .i64 q3, .int .i64 q4, .int .i64 q5, .int .i64 q6, .bool q7, .int .i64 qad, .int .i64 zst, .int .i64 zlf, .slice za ql.length zc, .bool false, .int .i64 0] g6.out (by kernel_rfl) (by kernel_rfl) (by kernel_rfl) (by kernel_rfl) ?_; intro w7 g7 o7))
          go_roundw
          case rel => exact ⟨k + 1, zst, zlf, za, zc, wr.heap.size, w6.heap.size, false, 0, by go_num, by omega, o7.below hC6 hR hC6.size, htk, g7, hnz.out o7 (.inr hRl), .inr hRl⟩
          case measure => simp [intOf]; omega
        · obtain rfl : k = K := by omega
          have hi2 : decide ((k : Int) < qlf) = false := decide_eq_false (by have := HK0.out; omega)
          have HGk := Lib.hid hg
          clear hg
          by_cases h3 : qst = 3
          · have eq3 : (qst != 3) = false := by simp [h3]
            clear h3
            by_cases hdC : dC = 0
            · subst hdC
              obtain ⟨c1, c2, c3⟩ := hearO_ok HD.out
              rcases hsm : sameN ⟨n0, n1, n2, n3, n4, n5, n6, n7⟩ ⟨m0, m1, m2, m3, m4, m5, m6, m7⟩
              · have HSame := Lib.hid (show false = sameN ⟨n0, n1, n2, n3, n4, n5, n6, n7⟩ ⟨m0, m1, m2, m3, m4, m5, m6, m7⟩ from hsm.symm)
                unfold sameN at HSame
                dsimp only at HSame
                have c4 := c3
                dsimp only at c4
                rw [hsm] at c4
                by_cases hsa : src = ad ∧ st ≠ 3
                · obtain ⟨hsa, h3⟩ := hsa
                  have h1 := hear_one (m := ⟨m0, m1, m2, m3, m4, m5, m6, m7⟩) c1 hsa h3
                  rw [c4] at h1
                  dsimp only at h1
                  rw [← less_form (clB_of c1).1 c2] at h1
                  obtain ⟨hS, hA⟩ := h1
                  subst hS
                  have HNL := fun W => Lib.hid (implNameLess_any ⟨n0, n1, n2, n3, n4, n5, n6, n7⟩ ⟨m0, m1, m2, m3, m4, m5, m6, m7⟩ W)
                  generalize nmLessB ⟨n0, n1, n2, n3, n4, n5, n6, n7⟩ ⟨m0, m1, m2, m3, m4, m5, m6, m7⟩ = r at hA HNL
                  unfold nmV at HNL
                  dsimp only at HNL
                  have hA2 : (dad == ad) = r := hA
                  have eS : (src != ad) = false := by simp [hsa]
                  have eT : (st == 3) = false := by simpa using h3
                  clear c1 c2 c3 c4 hsm hsa h3 hA
                  go_wp2_with (first
                    | ((with_reducible refine @id (wpList _ _ _ (Oper.mk _ (Op.load 2 (.tmp 86)) _ _ _ _ :: _) _ _) ?_); refine wpList_load_one (by kernel_rfl) 2 (.tmp 86) rfl (S11) 10 rfl 27 #[.int .i64 q0, .int .i64 q1, .int .i64 q2, .int .i64 q3, .int .i64 q4, .int .i64 q5, .int .i64 q6, .bool q7, .int .i64 qad, .int .i64 qst, .int .i64 qlf, .slice qb ql.length qc] (0, 0) (J11.out wr hb) (.int .i64 qlf) rfl _ Try.underlying2 rfl (by kernel_rfl) ?_)
                    | ((with_reducible refine @id (wpList _ _ _ (Oper.mk _ (Op.load 2 (.tmp 94)) _ _ _ _ :: _) _ _) ?_); refine wpList_load_one (by kernel_rfl) 2 (.tmp 94) rfl (S11) 9 rfl 27 #[.int .i64 q0, .int .i64 q1, .int .i64 q2, .int .i64 q3, .int .i64 q4, .int .i64 q5, .int .i64 q6, .bool q7, .int .i64 qad, .int .i64 qst, .int .i64 qlf, .slice qb ql.length qc] (0, 0) (J11.out wr hb) (.int .i64 qst) rfl _ Try.underlying2 rfl (by kernel_rfl) ?_)
                    | ((with_reducible refine @id (wpList _ _ _ (Oper.mk _ (Op.load 2 (.tmp 103)) _ _ _ _ :: _) _ _) ?_); refine wpList_load_one (by kernel_rfl) 2 (.tmp 103) rfl (S8) 13 rfl 31 #[.int .i64 d0, .int .i64 d1, .int .i64 d2, .int .i64 d3, .int .i64 d4, .int .i64 d5, .int .i64 d6, .bool d7, .int .i64 dad, .int .i64 dst, .int .i64 dlf, .slice xa dl.length xc, .bool true, .int .i64 0] (0, 0) (J8.out wr hb) (.int .i64 0) rfl _ Try.underlying2 rfl (by kernel_rfl) ?_)
                    | ((with_reducible refine @id (wpList _ _ _ (Oper.mk _ (Op.load 24 (.tmp 107)) _ _ _ _ :: _) _ _) ?_); refine wpList_load_at (by kernel_rfl) 24 (.tmp 107) rfl (S5) 0 rfl 27 #[.int .i64 n0, .int .i64 n1, .int .i64 n2, .int .i64 n3, .int .i64 n4, .int .i64 n5, .int .i64 n6, .bool n7, .int .i64 ad, .int .i64 st, .int .i64 lf, .slice b l.length c] (0, 0) (J5.out wr hb) [.int .i64 n0, .int .i64 n1, .int .i64 n2, .int .i64 n3, .int .i64 n4, .int .i64 n5, .int .i64 n6, .bool n7] rfl _ Try.underlying24 rfl (by kernel_rfl) ?_)
                    | ((with_reducible refine @id (wpList _ _ _ (Oper.mk _ (Op.load 24 (.tmp 7)) _ _ _ _ :: _) _ _) ?_); refine wpList_load_at (by kernel_rfl) 24 (.tmp 7) rfl (S7) 0 rfl 24 #[.int .i64 m0, .int .i64 m1, .int .i64 m2, .int .i64 m3, .int .i64 m4, .int .i64 m5, .int .i64 m6, .bool m7] (0, 0) (J7.out wr hb) [.int .i64 m0, .int .i64 m1, .int .i64 m2, .int .i64 m3, .int .i64 m4, .int .i64 m5, .int .i64 m6, .bool m7] rfl _ Try.underlying24 rfl (by kernel_rfl) ?_)
                    | ((with_reducible refine @id (wpList _ _ _ (Oper.mk _ (Op.binOp _ _ _ _ _) _ _ _ _ :: _) _ _) ?_); refine wpList_eql_nm (by kernel_rfl) (.tmp 108) (.tmp 109) _ rfl n0 n1 n2 n3 n4 n5 n6 m0 m1 m2 m3 m4 m5 m6 n7 m7 rfl rfl false HSame.out ?_)
                    | ((with_reducible refine @id (wpList _ _ _ (Oper.mk _ (Op.load 2 (.tmp 114)) _ _ _ _ :: _) _ _) ?_); refine wpList_load_one (by kernel_rfl) 2 (.tmp 114) rfl (S5) 8 rfl 27 #[.int .i64 n0, .int .i64 n1, .int .i64 n2, .int .i64 n3, .int .i64 n4, .int .i64 n5, .int .i64 n6, .bool n7, .int .i64 ad, .int .i64 st, .int .i64 lf, .slice b l.length c] (0, 0) (J5.out wr hb) (.int .i64 ad) rfl _ Try.underlying2 rfl (by kernel_rfl) ?_)
                    | ((with_reducible refine @id (wpList _ _ _ (Oper.mk _ (Op.load 2 (.tmp 119)) _ _ _ _ :: _) _ _) ?_); refine wpList_load_one (by kernel_rfl) 2 (.tmp 119) rfl (S5) 9 rfl 27 #[.int .i64 n0, .int .i64 n1, .int .i64 n2, .int .i64 n3, .int .i64 n4, .int .i64 n5, .int .i64 n6, .bool n7, .int .i64 ad, .int .i64 st, .int .i64 lf, .slice b l.length c] (0, 0) (J5.out wr hb) (.int .i64 st) rfl _ Try.underlying2 rfl (by kernel_rfl) ?_)
                    | ((with_reducible refine @id (wpList _ _ _ (Oper.mk _ (Op.load 2 (.tmp 123)) _ _ _ _ :: _) _ _) ?_); refine wpList_load_one (by kernel_rfl) 2 (.tmp 123) rfl (S8) 13 rfl 31 #[.int .i64 d0, .int .i64 d1, .int .i64 d2, .int .i64 d3, .int .i64 d4, .int .i64 d5, .int .i64 d6, .bool d7, .int .i64 dad, .int .i64 dst, .int .i64 dlf, .slice xa dl.length xc, .bool true, .int .i64 0] (0, 0) (J8.out wr hb) (.int .i64 0) rfl _ Try.underlying2 rfl (by kernel_rfl) ?_)
                    | ((with_reducible refine @id (wpList _ _ _ (Oper.mk _ (Op.load 2 (.tmp 128)) _ _ _ _ :: _) _ _) ?_); refine wpList_load_one (by kernel_rfl) 2 (.tmp 128) rfl (S8) 8 rfl 31 #[.int .i64 d0, .int .i64 d1, .int .i64 d2, .int .i64 d3, .int .i64 d4, .int .i64 d5, .int .i64 d6, .bool d7, .int .i64 dad, .int .i64 dst, .int .i64 dlf, .slice xa dl.length xc, .bool true, .int .i64 0] (0, 0) (J8.out wr hb) (.int .i64 dad) rfl _ Try.underlying2 rfl (by kernel_rfl) ?_)
                    | ((with_reducible refine @id (wpList _ _ _ (Oper.mk _ (Op.load 2 (.tmp 130)) _ _ _ _ :: _) _ _) ?_); refine wpList_load_one (by kernel_rfl) 2 (.tmp 130) rfl (S5) 8 rfl 27 #[.int .i64 n0, .int .i64 n1, .int .i64 n2, .int .i64 n3, .int .i64 n4, .int .i64 n5, .int .i64 n6, .bool n7, .int .i64 ad, .int .i64 st, .int .i64 lf, .slice b l.length c] (0, 0) (J5.out wr hb) (.int .i64 ad) rfl _ Try.underlying2 rfl (by kernel_rfl) ?_))
                  refine wp_region_anyordG (fun W => Below U.heap.size U W) (fun W W' => Below W.heap.size W W') (fun i _ v => v = (#[.pointer (some ⟨S8, 12, none⟩), .bool true, .bool true, .pointer (some ⟨S8, 0, none⟩), .pointer (some ⟨S8, 8, none⟩), .int .i64 dad, .pointer (some ⟨S5, 8, none⟩), .int .i64 ad, .bool r, .pointer (some ⟨S5, 0, none⟩), .agg #[.int .i64 n0, .int .i64 n1, .int .i64 n2, .int .i64 n3, .int .i64 n4, .int .i64 n5, .int .i64 n6, .bool n7], .agg #[.int .i64 m0, .int .i64 m1, .int .i64 m2, .int .i64 m3, .int .i64 m4, .int .i64 m5, .int .i64 m6, .bool m7], .bool r, .bool true, .bool true, .bool true] : Array Value).getD i undef) (by kernel_rfl) (by kernel_rfl) (by kernel_rfl) (fun _ _ _ _ _ h => h) hb.drew ?_ ?_
                  · refine ⟨⟨.inl rfl, fun a1 W hC hK => ?_⟩, ⟨.inl rfl, fun a1 W hC hK => ?_⟩, ⟨.inl rfl, fun a1 W hC hK => ?_⟩, ⟨GuardOn.on 2 true 136 (fun _ _ h => h) rfl (by kernel_rfl) rfl rfl (by kernel_rfl), fun a1 W hC hK => ?_⟩, ⟨GuardOn.on 2 true 136 (fun _ _ h => h) rfl (by kernel_rfl) rfl rfl (by kernel_rfl), fun a1 W hC hK => ?_⟩, ⟨GuardOn.on 2 true 136 (fun _ _ h => h) rfl (by kernel_rfl) rfl rfl (by kernel_rfl), fun a1 W hC hK => ?_⟩, ⟨GuardOn.on 2 true 136 (fun _ _ h => h) rfl (by kernel_rfl) rfl rfl (by kernel_rfl), fun a1 W hC hK => ?_⟩, ⟨GuardOn.on 2 true 136 (fun _ _ h => h) rfl (by kernel_rfl) rfl rfl (by kernel_rfl), fun a1 W hC hK => ?_⟩, ⟨GuardOn.on 2 true 136 (fun _ _ h => h) rfl (by kernel_rfl) rfl rfl (by kernel_rfl), fun a1 W hC hK => ?_⟩, ⟨GuardOn.on 2 true 136 (fun _ _ h => h) rfl (by kernel_rfl) rfl rfl (by kernel_rfl), fun a1 W hC hK => ?_⟩, ⟨GuardOn.on 2 true 136 (fun _ _ h => h) rfl (by kernel_rfl) rfl rfl (by kernel_rfl), fun a1 W hC hK => ?_⟩, ⟨GuardOn.on 2 true 136 (fun _ _ h => h) rfl (by kernel_rfl) rfl rfl (by kernel_rfl), fun a1 W hC hK => ?_⟩, ⟨GuardOn.on 2 true 136 (fun _ _ h => h) rfl (by kernel_rfl) rfl rfl (by kernel_rfl), fun a1 W hC hK => ?_⟩, ⟨GuardOn.on 2 true 136 (fun _ _ h => h) rfl (by kernel_rfl) rfl rfl (by kernel_rfl), fun a1 W hC hK => ?_⟩, ⟨.inl rfl, fun a1 W hC hK => ?_⟩, ⟨.inl rfl, fun a1 W hC hK => ?_⟩, trivial⟩
                    · skip
                      have e1 : a1.eval (.tmp 8) = .pointer (some ⟨S8, 0, none⟩) := (hK.old 8 (by kernel_rfl)).trans rfl
                      simp only [Act.eval, Array.getD_eq_getD_getElem?] at e1
                      exact ob_value (v := .pointer (some ⟨S8, 12, none⟩)) (w' := W) (by simp [execOp, go_sem, e1]) ⟨_, rfl, hC, Below.refl _ _, rfl⟩
                    · skip
                      have e1 : a1.eval (.tmp 134) = .pointer (some ⟨S8, 12, none⟩) := hK.get 0 134 (by kernel_rfl) rfl rfl (by kernel_rfl)
                      have hcl : W.cell? ⟨S8, 12, none⟩ = some (.bool true) := (cell_of_row W S8 12 _ _ (0, 0) (J8.out W hC)).trans rfl
                      simp only [Act.eval, Array.getD_eq_getD_getElem?] at e1
                      exact ob_value (v := .bool true) (w' := W) (by simp [execOp, go_sem, e1, hcl]) ⟨_, rfl, hC, Below.refl _ _, rfl⟩
                    · skip
                      have e1 : a1.eval (.tmp 135) = .bool true := hK.get 1 135 (by kernel_rfl) rfl rfl (by kernel_rfl)
                      exact ob_move rfl ⟨_, rfl, hC, Below.refl _ _, e1⟩
                    · skip
                      have e1 : a1.eval (.tmp 8) = .pointer (some ⟨S8, 0, none⟩) := (hK.old 8 (by kernel_rfl)).trans rfl
                      simp only [Act.eval, Array.getD_eq_getD_getElem?] at e1
                      exact ob_value (v := .pointer (some ⟨S8, 0, none⟩)) (w' := W) (by simp [execOp, go_sem, e1]) ⟨_, rfl, hC, Below.refl _ _, rfl⟩
                    · skip
                      have e1 : a1.eval (.tmp 137) = .pointer (some ⟨S8, 0, none⟩) := hK.get 3 137 (by kernel_rfl) rfl rfl (by kernel_rfl)
                      simp only [Act.eval, Array.getD_eq_getD_getElem?] at e1
                      exact ob_value (v := .pointer (some ⟨S8, 8, none⟩)) (w' := W) (by simp [execOp, go_sem, e1]) ⟨_, rfl, hC, Below.refl _ _, rfl⟩
                    · skip
                      have e1 : a1.eval (.tmp 138) = .pointer (some ⟨S8, 8, none⟩) := hK.get 4 138 (by kernel_rfl) rfl rfl (by kernel_rfl)
                      have hcl : W.cell? ⟨S8, 8, none⟩ = some (.int .i64 dad) := (cell_of_row W S8 8 _ _ (0, 0) (J8.out W hC)).trans rfl
                      simp only [Act.eval, Array.getD_eq_getD_getElem?] at e1
                      exact ob_value (v := .int .i64 dad) (w' := W) (by simp [execOp, go_sem, e1, hcl]) ⟨_, rfl, hC, Below.refl _ _, rfl⟩
                    · skip
                      have e1 : a1.eval (.tmp 5) = .pointer (some ⟨S5, 0, none⟩) := (hK.old 5 (by kernel_rfl)).trans rfl
                      simp only [Act.eval, Array.getD_eq_getD_getElem?] at e1
                      exact ob_value (v := .pointer (some ⟨S5, 8, none⟩)) (w' := W) (by simp [execOp, go_sem, e1]) ⟨_, rfl, hC, Below.refl _ _, rfl⟩
                    · skip
                      have e1 : a1.eval (.tmp 140) = .pointer (some ⟨S5, 8, none⟩) := hK.get 6 140 (by kernel_rfl) rfl rfl (by kernel_rfl)
                      have hcl : W.cell? ⟨S5, 8, none⟩ = some (.int .i64 ad) := (cell_of_row W S5 8 _ _ (0, 0) (J5.out W hC)).trans rfl
                      simp only [Act.eval, Array.getD_eq_getD_getElem?] at e1
                      exact ob_value (v := .int .i64 ad) (w' := W) (by simp [execOp, go_sem, e1, hcl]) ⟨_, rfl, hC, Below.refl _ _, rfl⟩
                    · skip
                      have e1 : a1.eval (.tmp 139) = .int .i64 dad := hK.get 5 139 (by kernel_rfl) rfl rfl (by kernel_rfl)
                      have e2 : a1.eval (.tmp 141) = .int .i64 ad := hK.get 7 141 (by kernel_rfl) rfl rfl (by kernel_rfl)
                      simp only [Act.eval, Array.getD_eq_getD_getElem?] at e1 e2
                      exact ob_value (v := .bool r) (w' := W) (by simp [execOp, go_sem, e1, e2, hA2]) ⟨_, rfl, hC, Below.refl _ _, rfl⟩
                    · skip
                      have e1 : a1.eval (.tmp 5) = .pointer (some ⟨S5, 0, none⟩) := (hK.old 5 (by kernel_rfl)).trans rfl
                      simp only [Act.eval, Array.getD_eq_getD_getElem?] at e1
                      exact ob_value (v := .pointer (some ⟨S5, 0, none⟩)) (w' := W) (by simp [execOp, go_sem, e1]) ⟨_, rfl, hC, Below.refl _ _, rfl⟩
                    · skip
                      have e1 : a1.eval (.tmp 143) = .pointer (some ⟨S5, 0, none⟩) := hK.get 9 143 (by kernel_rfl) rfl rfl (by kernel_rfl)
                      exact wp_load_mid 24 (.tmp 143) rfl S5 0 e1 [.int .i64 n0, .int .i64 n1, .int .i64 n2, .int .i64 n3, .int .i64 n4, .int .i64 n5, .int .i64 n6, .bool n7] _ (fun j v hv => by
                        have hl : j < 8 := by simpa using (List.getElem?_eq_some_iff.1 hv).1
                        rw [cell_of_row W S5 (0 + j) _ _ (0, 0) (J5.out W hC)]
                        match j, hl, hv with
                        | 0, _, hv => exact hv
                        | 1, _, hv => exact hv
                        | 2, _, hv => exact hv
                        | 3, _, hv => exact hv
                        | 4, _, hv => exact hv
                        | 5, _, hv => exact hv
                        | 6, _, hv => exact hv
                        | 7, _, hv => exact hv) Try.underlying24 rfl (by kernel_rfl) ⟨_, rfl, hC, Below.refl _ _, rfl⟩
                    · skip
                      have e1 : a1.eval (.tmp 7) = .pointer (some ⟨S7, 0, none⟩) := (hK.old 7 (by kernel_rfl)).trans rfl
                      exact wp_load_mid 24 (.tmp 7) rfl S7 0 e1 [.int .i64 m0, .int .i64 m1, .int .i64 m2, .int .i64 m3, .int .i64 m4, .int .i64 m5, .int .i64 m6, .bool m7] _ (fun j v hv => by
                        have hl : j < 8 := by simpa using (List.getElem?_eq_some_iff.1 hv).1
                        rw [cell_of_row W S7 (0 + j) _ _ (0, 0) (J7.out W hC)]
                        match j, hl, hv with
                        | 0, _, hv => exact hv
                        | 1, _, hv => exact hv
                        | 2, _, hv => exact hv
                        | 3, _, hv => exact hv
                        | 4, _, hv => exact hv
                        | 5, _, hv => exact hv
                        | 6, _, hv => exact hv
                        | 7, _, hv => exact hv) Try.underlying24 rfl (by kernel_rfl) ⟨_, rfl, hC, Below.refl _ _, rfl⟩
                    · have e1 : a1.eval (.tmp 144) = .agg #[.int .i64 n0, .int .i64 n1, .int .i64 n2, .int .i64 n3, .int .i64 n4, .int .i64 n5, .int .i64 n6, .bool n7] := hK.get 10 144 (by kernel_rfl) rfl rfl (by kernel_rfl)
                      have e2 : a1.eval (.tmp 145) = .agg #[.int .i64 m0, .int .i64 m1, .int .i64 m2, .int .i64 m3, .int .i64 m4, .int .i64 m5, .int .i64 m6, .bool m7] := hK.get 11 145 (by kernel_rfl) rfl rfl (by kernel_rfl)
                      refine ob_call rfl Try.func26 (by kernel_rfl) (by kernel_rfl) (vals := #[.agg #[.int .i64 n0, .int .i64 n1, .int .i64 n2, .int .i64 n3, .int .i64 n4, .int .i64 n5, .int .i64 n6, .bool n7], .agg #[.int .i64 m0, .int .i64 m1, .int .i64 m2, .int .i64 m3, .int .i64 m4, .int .i64 m5, .int .i64 m6, .bool m7]]) (by simp [e1, e2]) ?_
                      refine (HNL W).out.mono ?_
                      rintro e W' ⟨rfl, h⟩
                      exact ⟨_, rfl, _, rfl, hC.trans (h.mono hC.size), h, rfl⟩
                    · skip
                      have e1 : a1.eval (.tmp 142) = .bool r := hK.get 8 142 (by kernel_rfl) rfl rfl (by kernel_rfl)
                      have e2 : a1.eval (.tmp 146) = .bool r := hK.get 12 146 (by kernel_rfl) rfl rfl (by kernel_rfl)
                      simp only [Act.eval, Array.getD_eq_getD_getElem?] at e1 e2
                      exact ob_value (v := .bool true) (w' := W) (by simp [execOp, go_sem, e1, e2]) ⟨_, rfl, hC, Below.refl _ _, rfl⟩
                    · skip
                      have e1 : a1.eval (.tmp 136) = .bool true := hK.get 2 136 (by kernel_rfl) rfl rfl (by kernel_rfl)
                      have e2 : a1.eval (.tmp 147) = .bool true := hK.get 13 147 (by kernel_rfl) rfl rfl (by kernel_rfl)
                      simp only [Act.eval, Array.getD_eq_getD_getElem?] at e1 e2
                      exact ob_value (v := .bool true) (w' := W) (by simp [execOp, go_sem, e1, e2]) ⟨_, rfl, hC, Below.refl _ _, rfl⟩
                    · skip
                      have e1 : a1.eval (.tmp 148) = .bool true := hK.get 14 148 (by kernel_rfl) rfl rfl (by kernel_rfl)
                      exact ob_value (BigFrame.run_assign _ rfl W) ⟨_, rfl, hC, Below.refl _ _, e1⟩
                  · intro vs W2 hC9 hT
                    have ex : vs 15 = .bool true := hT 15 (by decide)
                    simp only [fillL, if_true, Act.put, List.setIfInBounds_toArray, List.set_cons_zero, List.set_cons_succ, ex]
                    clear hT ex
                    go_wp2_with fail
                    go_ret
                    exact ⟨rfl, HB.out.trans (hC9.mono HB.out.size)⟩
                · have ho : src ≠ ad ∨ st = 3 := (Classical.em (src = ad)).elim (fun h => .inr (Classical.byContradiction fun h3 => hsa ⟨h, h3⟩)) (fun h => .inl h)
                  have hda := congrArg (fun p : Cl × Bool => p.1.ad) ((hearC_off (n := ⟨n0, n1, n2, n3, n4, n5, n6, n7⟩) (lf := lf) (l := l) (m := ⟨m0, m1, m2, m3, m4, m5, m6, m7⟩) ho).symm.trans c4)
                  dsimp only at hda
                  have eA : (dad == ad) = true := by simp [hda]
                  clear c1 c2 c3 c4 hsm hsa hda
                  by_cases hsa : src = ad
                  · have eS : (src != ad) = false := by simp [hsa]
                    have eT : (st == 3) = true := by rcases ho with h | h; exact absurd hsa h; simp [h]
                    clear hsa ho
                    go_wp2_with (first
                      | ((with_reducible refine @id (wpList _ _ _ (Oper.mk _ (Op.load 2 (.tmp 86)) _ _ _ _ :: _) _ _) ?_); refine wpList_load_one (by kernel_rfl) 2 (.tmp 86) rfl (S11) 10 rfl 27 #[.int .i64 q0, .int .i64 q1, .int .i64 q2, .int .i64 q3, .int .i64 q4, .int .i64 q5, .int .i64 q6, .bool q7, .int .i64 qad, .int .i64 qst, .int .i64 qlf, .slice qb ql.length qc] (0, 0) (J11.out wr hb) (.int .i64 qlf) rfl _ Try.underlying2 rfl (by kernel_rfl) ?_)
                      | ((with_reducible refine @id (wpList _ _ _ (Oper.mk _ (Op.load 2 (.tmp 94)) _ _ _ _ :: _) _ _) ?_); refine wpList_load_one (by kernel_rfl) 2 (.tmp 94) rfl (S11) 9 rfl 27 #[.int .i64 q0, .int .i64 q1, .int .i64 q2, .int .i64 q3, .int .i64 q4, .int .i64 q5, .int .i64 q6, .bool q7, .int .i64 qad, .int .i64 qst, .int .i64 qlf, .slice qb ql.length qc] (0, 0) (J11.out wr hb) (.int .i64 qst) rfl _ Try.underlying2 rfl (by kernel_rfl) ?_)
                      | ((with_reducible refine @id (wpList _ _ _ (Oper.mk _ (Op.load 2 (.tmp 103)) _ _ _ _ :: _) _ _) ?_); refine wpList_load_one (by kernel_rfl) 2 (.tmp 103) rfl (S8) 13 rfl 31 #[.int .i64 d0, .int .i64 d1, .int .i64 d2, .int .i64 d3, .int .i64 d4, .int .i64 d5, .int .i64 d6, .bool d7, .int .i64 dad, .int .i64 dst, .int .i64 dlf, .slice xa dl.length xc, .bool dS, .int .i64 0] (0, 0) (J8.out wr hb) (.int .i64 0) rfl _ Try.underlying2 rfl (by kernel_rfl) ?_)
                      | ((with_reducible refine @id (wpList _ _ _ (Oper.mk _ (Op.load 24 (.tmp 107)) _ _ _ _ :: _) _ _) ?_); refine wpList_load_at (by kernel_rfl) 24 (.tmp 107) rfl (S5) 0 rfl 27 #[.int .i64 n0, .int .i64 n1, .int .i64 n2, .int .i64 n3, .int .i64 n4, .int .i64 n5, .int .i64 n6, .bool n7, .int .i64 ad, .int .i64 st, .int .i64 lf, .slice b l.length c] (0, 0) (J5.out wr hb) [.int .i64 n0, .int .i64 n1, .int .i64 n2, .int .i64 n3, .int .i64 n4, .int .i64 n5, .int .i64 n6, .bool n7] rfl _ Try.underlying24 rfl (by kernel_rfl) ?_)
                      | ((with_reducible refine @id (wpList _ _ _ (Oper.mk _ (Op.load 24 (.tmp 7)) _ _ _ _ :: _) _ _) ?_); refine wpList_load_at (by kernel_rfl) 24 (.tmp 7) rfl (S7) 0 rfl 24 #[.int .i64 m0, .int .i64 m1, .int .i64 m2, .int .i64 m3, .int .i64 m4, .int .i64 m5, .int .i64 m6, .bool m7] (0, 0) (J7.out wr hb) [.int .i64 m0, .int .i64 m1, .int .i64 m2, .int .i64 m3, .int .i64 m4, .int .i64 m5, .int .i64 m6, .bool m7] rfl _ Try.underlying24 rfl (by kernel_rfl) ?_)
                      | ((with_reducible refine @id (wpList _ _ _ (Oper.mk _ (Op.binOp _ _ _ _ _) _ _ _ _ :: _) _ _) ?_); refine wpList_eql_nm (by kernel_rfl) (.tmp 108) (.tmp 109) _ rfl n0 n1 n2 n3 n4 n5 n6 m0 m1 m2 m3 m4 m5 m6 n7 m7 rfl rfl false HSame.out ?_)
                      | ((with_reducible refine @id (wpList _ _ _ (Oper.mk _ (Op.load 2 (.tmp 114)) _ _ _ _ :: _) _ _) ?_); refine wpList_load_one (by kernel_rfl) 2 (.tmp 114) rfl (S5) 8 rfl 27 #[.int .i64 n0, .int .i64 n1, .int .i64 n2, .int .i64 n3, .int .i64 n4, .int .i64 n5, .int .i64 n6, .bool n7, .int .i64 ad, .int .i64 st, .int .i64 lf, .slice b l.length c] (0, 0) (J5.out wr hb) (.int .i64 ad) rfl _ Try.underlying2 rfl (by kernel_rfl) ?_)
                      | ((with_reducible refine @id (wpList _ _ _ (Oper.mk _ (Op.load 2 (.tmp 119)) _ _ _ _ :: _) _ _) ?_); refine wpList_load_one (by kernel_rfl) 2 (.tmp 119) rfl (S5) 9 rfl 27 #[.int .i64 n0, .int .i64 n1, .int .i64 n2, .int .i64 n3, .int .i64 n4, .int .i64 n5, .int .i64 n6, .bool n7, .int .i64 ad, .int .i64 st, .int .i64 lf, .slice b l.length c] (0, 0) (J5.out wr hb) (.int .i64 st) rfl _ Try.underlying2 rfl (by kernel_rfl) ?_)
                      | ((with_reducible refine @id (wpList _ _ _ (Oper.mk _ (Op.load 2 (.tmp 123)) _ _ _ _ :: _) _ _) ?_); refine wpList_load_one (by kernel_rfl) 2 (.tmp 123) rfl (S8) 13 rfl 31 #[.int .i64 d0, .int .i64 d1, .int .i64 d2, .int .i64 d3, .int .i64 d4, .int .i64 d5, .int .i64 d6, .bool d7, .int .i64 dad, .int .i64 dst, .int .i64 dlf, .slice xa dl.length xc, .bool dS, .int .i64 0] (0, 0) (J8.out wr hb) (.int .i64 0) rfl _ Try.underlying2 rfl (by kernel_rfl) ?_)
                      | ((with_reducible refine @id (wpList _ _ _ (Oper.mk _ (Op.load 2 (.tmp 128)) _ _ _ _ :: _) _ _) ?_); refine wpList_load_one (by kernel_rfl) 2 (.tmp 128) rfl (S8) 8 rfl 31 #[.int .i64 d0, .int .i64 d1, .int .i64 d2, .int .i64 d3, .int .i64 d4, .int .i64 d5, .int .i64 d6, .bool d7, .int .i64 dad, .int .i64 dst, .int .i64 dlf, .slice xa dl.length xc, .bool dS, .int .i64 0] (0, 0) (J8.out wr hb) (.int .i64 dad) rfl _ Try.underlying2 rfl (by kernel_rfl) ?_)
                      | ((with_reducible refine @id (wpList _ _ _ (Oper.mk _ (Op.load 2 (.tmp 130)) _ _ _ _ :: _) _ _) ?_); refine wpList_load_one (by kernel_rfl) 2 (.tmp 130) rfl (S5) 8 rfl 27 #[.int .i64 n0, .int .i64 n1, .int .i64 n2, .int .i64 n3, .int .i64 n4, .int .i64 n5, .int .i64 n6, .bool n7, .int .i64 ad, .int .i64 st, .int .i64 lf, .slice b l.length c] (0, 0) (J5.out wr hb) (.int .i64 ad) rfl _ Try.underlying2 rfl (by kernel_rfl) ?_))
                    go_ret
                    exact ⟨rfl, HB.out.trans (hb.mono HB.out.size)⟩
                  · have eS : (src != ad) = true := by simpa using hsa
                    clear hsa ho
                    go_wp2_with (first
                      | ((with_reducible refine @id (wpList _ _ _ (Oper.mk _ (Op.load 2 (.tmp 86)) _ _ _ _ :: _) _ _) ?_); refine wpList_load_one (by kernel_rfl) 2 (.tmp 86) rfl (S11) 10 rfl 27 #[.int .i64 q0, .int .i64 q1, .int .i64 q2, .int .i64 q3, .int .i64 q4, .int .i64 q5, .int .i64 q6, .bool q7, .int .i64 qad, .int .i64 qst, .int .i64 qlf, .slice qb ql.length qc] (0, 0) (J11.out wr hb) (.int .i64 qlf) rfl _ Try.underlying2 rfl (by kernel_rfl) ?_)
                      | ((with_reducible refine @id (wpList _ _ _ (Oper.mk _ (Op.load 2 (.tmp 94)) _ _ _ _ :: _) _ _) ?_); refine wpList_load_one (by kernel_rfl) 2 (.tmp 94) rfl (S11) 9 rfl 27 #[.int .i64 q0, .int .i64 q1, .int .i64 q2, .int .i64 q3, .int .i64 q4, .int .i64 q5, .int .i64 q6, .bool q7, .int .i64 qad, .int .i64 qst, .int .i64 qlf, .slice qb ql.length qc] (0, 0) (J11.out wr hb) (.int .i64 qst) rfl _ Try.underlying2 rfl (by kernel_rfl) ?_)
                      | ((with_reducible refine @id (wpList _ _ _ (Oper.mk _ (Op.load 2 (.tmp 103)) _ _ _ _ :: _) _ _) ?_); refine wpList_load_one (by kernel_rfl) 2 (.tmp 103) rfl (S8) 13 rfl 31 #[.int .i64 d0, .int .i64 d1, .int .i64 d2, .int .i64 d3, .int .i64 d4, .int .i64 d5, .int .i64 d6, .bool d7, .int .i64 dad, .int .i64 dst, .int .i64 dlf, .slice xa dl.length xc, .bool dS, .int .i64 0] (0, 0) (J8.out wr hb) (.int .i64 0) rfl _ Try.underlying2 rfl (by kernel_rfl) ?_)
                      | ((with_reducible refine @id (wpList _ _ _ (Oper.mk _ (Op.load 24 (.tmp 107)) _ _ _ _ :: _) _ _) ?_); refine wpList_load_at (by kernel_rfl) 24 (.tmp 107) rfl (S5) 0 rfl 27 #[.int .i64 n0, .int .i64 n1, .int .i64 n2, .int .i64 n3, .int .i64 n4, .int .i64 n5, .int .i64 n6, .bool n7, .int .i64 ad, .int .i64 st, .int .i64 lf, .slice b l.length c] (0, 0) (J5.out wr hb) [.int .i64 n0, .int .i64 n1, .int .i64 n2, .int .i64 n3, .int .i64 n4, .int .i64 n5, .int .i64 n6, .bool n7] rfl _ Try.underlying24 rfl (by kernel_rfl) ?_)
                      | ((with_reducible refine @id (wpList _ _ _ (Oper.mk _ (Op.load 24 (.tmp 7)) _ _ _ _ :: _) _ _) ?_); refine wpList_load_at (by kernel_rfl) 24 (.tmp 7) rfl (S7) 0 rfl 24 #[.int .i64 m0, .int .i64 m1, .int .i64 m2, .int .i64 m3, .int .i64 m4, .int .i64 m5, .int .i64 m6, .bool m7] (0, 0) (J7.out wr hb) [.int .i64 m0, .int .i64 m1, .int .i64 m2, .int .i64 m3, .int .i64 m4, .int .i64 m5, .int .i64 m6, .bool m7] rfl _ Try.underlying24 rfl (by kernel_rfl) ?_)
                      | ((with_reducible refine @id (wpList _ _ _ (Oper.mk _ (Op.binOp _ _ _ _ _) _ _ _ _ :: _) _ _) ?_); refine wpList_eql_nm (by kernel_rfl) (.tmp 108) (.tmp 109) _ rfl n0 n1 n2 n3 n4 n5 n6 m0 m1 m2 m3 m4 m5 m6 n7 m7 rfl rfl false HSame.out ?_)
                      | ((with_reducible refine @id (wpList _ _ _ (Oper.mk _ (Op.load 2 (.tmp 114)) _ _ _ _ :: _) _ _) ?_); refine wpList_load_one (by kernel_rfl) 2 (.tmp 114) rfl (S5) 8 rfl 27 #[.int .i64 n0, .int .i64 n1, .int .i64 n2, .int .i64 n3, .int .i64 n4, .int .i64 n5, .int .i64 n6, .bool n7, .int .i64 ad, .int .i64 st, .int .i64 lf, .slice b l.length c] (0, 0) (J5.out wr hb) (.int .i64 ad) rfl _ Try.underlying2 rfl (by kernel_rfl) ?_)
                      | ((with_reducible refine @id (wpList _ _ _ (Oper.mk _ (Op.load 2 (.tmp 119)) _ _ _ _ :: _) _ _) ?_); refine wpList_load_one (by kernel_rfl) 2 (.tmp 119) rfl (S5) 9 rfl 27 #[.int .i64 n0, .int .i64 n1, .int .i64 n2, .int .i64 n3, .int .i64 n4, .int .i64 n5, .int .i64 n6, .bool n7, .int .i64 ad, .int .i64 st, .int .i64 lf, .slice b l.length c] (0, 0) (J5.out wr hb) (.int .i64 st) rfl _ Try.underlying2 rfl (by kernel_rfl) ?_)
                      | ((with_reducible refine @id (wpList _ _ _ (Oper.mk _ (Op.load 2 (.tmp 123)) _ _ _ _ :: _) _ _) ?_); refine wpList_load_one (by kernel_rfl) 2 (.tmp 123) rfl (S8) 13 rfl 31 #[.int .i64 d0, .int .i64 d1, .int .i64 d2, .int .i64 d3, .int .i64 d4, .int .i64 d5, .int .i64 d6, .bool d7, .int .i64 dad, .int .i64 dst, .int .i64 dlf, .slice xa dl.length xc, .bool dS, .int .i64 0] (0, 0) (J8.out wr hb) (.int .i64 0) rfl _ Try.underlying2 rfl (by kernel_rfl) ?_)
                      | ((with_reducible refine @id (wpList _ _ _ (Oper.mk _ (Op.load 2 (.tmp 128)) _ _ _ _ :: _) _ _) ?_); refine wpList_load_one (by kernel_rfl) 2 (.tmp 128) rfl (S8) 8 rfl 31 #[.int .i64 d0, .int .i64 d1, .int .i64 d2, .int .i64 d3, .int .i64 d4, .int .i64 d5, .int .i64 d6, .bool d7, .int .i64 dad, .int .i64 dst, .int .i64 dlf, .slice xa dl.length xc, .bool dS, .int .i64 0] (0, 0) (J8.out wr hb) (.int .i64 dad) rfl _ Try.underlying2 rfl (by kernel_rfl) ?_)
                      | ((with_reducible refine @id (wpList _ _ _ (Oper.mk _ (Op.load 2 (.tmp 130)) _ _ _ _ :: _) _ _) ?_); refine wpList_load_one (by kernel_rfl) 2 (.tmp 130) rfl (S5) 8 rfl 27 #[.int .i64 n0, .int .i64 n1, .int .i64 n2, .int .i64 n3, .int .i64 n4, .int .i64 n5, .int .i64 n6, .bool n7, .int .i64 ad, .int .i64 st, .int .i64 lf, .slice b l.length c] (0, 0) (J5.out wr hb) (.int .i64 ad) rfl _ Try.underlying2 rfl (by kernel_rfl) ?_))
                    go_ret
                    exact ⟨rfl, HB.out.trans (hb.mono HB.out.size)⟩
              · have HSame := Lib.hid (show true = sameN ⟨n0, n1, n2, n3, n4, n5, n6, n7⟩ ⟨m0, m1, m2, m3, m4, m5, m6, m7⟩ from hsm.symm)
                unfold sameN at HSame
                dsimp only at HSame
                have c4 := c3
                dsimp only at c4
                rw [hsm] at c4
                have hda := congrArg (fun p : Cl × Bool => p.1.ad) ((hearC_same (n := ⟨n0, n1, n2, n3, n4, n5, n6, n7⟩) (ad := ad) (st := st) (lf := lf) (l := l) (s := src) (m := ⟨m0, m1, m2, m3, m4, m5, m6, m7⟩)).symm.trans c4)
                dsimp only at hda
                have eA : (dad == ad) = true := by simp [hda]
                clear c1 c2 c3 c4 hsm hda
                go_wp2_with (first
                  | ((with_reducible refine @id (wpList _ _ _ (Oper.mk _ (Op.load 2 (.tmp 86)) _ _ _ _ :: _) _ _) ?_); refine wpList_load_one (by kernel_rfl) 2 (.tmp 86) rfl (S11) 10 rfl 27 #[.int .i64 q0, .int .i64 q1, .int .i64 q2, .int .i64 q3, .int .i64 q4, .int .i64 q5, .int .i64 q6, .bool q7, .int .i64 qad, .int .i64 qst, .int .i64 qlf, .slice qb ql.length qc] (0, 0) (J11.out wr hb) (.int .i64 qlf) rfl _ Try.underlying2 rfl (by kernel_rfl) ?_)
                  | ((with_reducible refine @id (wpList _ _ _ (Oper.mk _ (Op.load 2 (.tmp 94)) _ _ _ _ :: _) _ _) ?_); refine wpList_load_one (by kernel_rfl) 2 (.tmp 94) rfl (S11) 9 rfl 27 #[.int .i64 q0, .int .i64 q1, .int .i64 q2, .int .i64 q3, .int .i64 q4, .int .i64 q5, .int .i64 q6, .bool q7, .int .i64 qad, .int .i64 qst, .int .i64 qlf, .slice qb ql.length qc] (0, 0) (J11.out wr hb) (.int .i64 qst) rfl _ Try.underlying2 rfl (by kernel_rfl) ?_)
                  | ((with_reducible refine @id (wpList _ _ _ (Oper.mk _ (Op.load 2 (.tmp 103)) _ _ _ _ :: _) _ _) ?_); refine wpList_load_one (by kernel_rfl) 2 (.tmp 103) rfl (S8) 13 rfl 31 #[.int .i64 d0, .int .i64 d1, .int .i64 d2, .int .i64 d3, .int .i64 d4, .int .i64 d5, .int .i64 d6, .bool d7, .int .i64 dad, .int .i64 dst, .int .i64 dlf, .slice xa dl.length xc, .bool dS, .int .i64 0] (0, 0) (J8.out wr hb) (.int .i64 0) rfl _ Try.underlying2 rfl (by kernel_rfl) ?_)
                  | ((with_reducible refine @id (wpList _ _ _ (Oper.mk _ (Op.load 24 (.tmp 107)) _ _ _ _ :: _) _ _) ?_); refine wpList_load_at (by kernel_rfl) 24 (.tmp 107) rfl (S5) 0 rfl 27 #[.int .i64 n0, .int .i64 n1, .int .i64 n2, .int .i64 n3, .int .i64 n4, .int .i64 n5, .int .i64 n6, .bool n7, .int .i64 ad, .int .i64 st, .int .i64 lf, .slice b l.length c] (0, 0) (J5.out wr hb) [.int .i64 n0, .int .i64 n1, .int .i64 n2, .int .i64 n3, .int .i64 n4, .int .i64 n5, .int .i64 n6, .bool n7] rfl _ Try.underlying24 rfl (by kernel_rfl) ?_)
                  | ((with_reducible refine @id (wpList _ _ _ (Oper.mk _ (Op.load 24 (.tmp 7)) _ _ _ _ :: _) _ _) ?_); refine wpList_load_at (by kernel_rfl) 24 (.tmp 7) rfl (S7) 0 rfl 24 #[.int .i64 m0, .int .i64 m1, .int .i64 m2, .int .i64 m3, .int .i64 m4, .int .i64 m5, .int .i64 m6, .bool m7] (0, 0) (J7.out wr hb) [.int .i64 m0, .int .i64 m1, .int .i64 m2, .int .i64 m3, .int .i64 m4, .int .i64 m5, .int .i64 m6, .bool m7] rfl _ Try.underlying24 rfl (by kernel_rfl) ?_)
                  | ((with_reducible refine @id (wpList _ _ _ (Oper.mk _ (Op.binOp _ _ _ _ _) _ _ _ _ :: _) _ _) ?_); refine wpList_eql_nm (by kernel_rfl) (.tmp 108) (.tmp 109) _ rfl n0 n1 n2 n3 n4 n5 n6 m0 m1 m2 m3 m4 m5 m6 n7 m7 rfl rfl true HSame.out ?_)
                  | ((with_reducible refine @id (wpList _ _ _ (Oper.mk _ (Op.load 2 (.tmp 114)) _ _ _ _ :: _) _ _) ?_); refine wpList_load_one (by kernel_rfl) 2 (.tmp 114) rfl (S5) 8 rfl 27 #[.int .i64 n0, .int .i64 n1, .int .i64 n2, .int .i64 n3, .int .i64 n4, .int .i64 n5, .int .i64 n6, .bool n7, .int .i64 ad, .int .i64 st, .int .i64 lf, .slice b l.length c] (0, 0) (J5.out wr hb) (.int .i64 ad) rfl _ Try.underlying2 rfl (by kernel_rfl) ?_)
                  | ((with_reducible refine @id (wpList _ _ _ (Oper.mk _ (Op.load 2 (.tmp 119)) _ _ _ _ :: _) _ _) ?_); refine wpList_load_one (by kernel_rfl) 2 (.tmp 119) rfl (S5) 9 rfl 27 #[.int .i64 n0, .int .i64 n1, .int .i64 n2, .int .i64 n3, .int .i64 n4, .int .i64 n5, .int .i64 n6, .bool n7, .int .i64 ad, .int .i64 st, .int .i64 lf, .slice b l.length c] (0, 0) (J5.out wr hb) (.int .i64 st) rfl _ Try.underlying2 rfl (by kernel_rfl) ?_)
                  | ((with_reducible refine @id (wpList _ _ _ (Oper.mk _ (Op.load 2 (.tmp 123)) _ _ _ _ :: _) _ _) ?_); refine wpList_load_one (by kernel_rfl) 2 (.tmp 123) rfl (S8) 13 rfl 31 #[.int .i64 d0, .int .i64 d1, .int .i64 d2, .int .i64 d3, .int .i64 d4, .int .i64 d5, .int .i64 d6, .bool d7, .int .i64 dad, .int .i64 dst, .int .i64 dlf, .slice xa dl.length xc, .bool dS, .int .i64 0] (0, 0) (J8.out wr hb) (.int .i64 0) rfl _ Try.underlying2 rfl (by kernel_rfl) ?_)
                  | ((with_reducible refine @id (wpList _ _ _ (Oper.mk _ (Op.load 2 (.tmp 128)) _ _ _ _ :: _) _ _) ?_); refine wpList_load_one (by kernel_rfl) 2 (.tmp 128) rfl (S8) 8 rfl 31 #[.int .i64 d0, .int .i64 d1, .int .i64 d2, .int .i64 d3, .int .i64 d4, .int .i64 d5, .int .i64 d6, .bool d7, .int .i64 dad, .int .i64 dst, .int .i64 dlf, .slice xa dl.length xc, .bool dS, .int .i64 0] (0, 0) (J8.out wr hb) (.int .i64 dad) rfl _ Try.underlying2 rfl (by kernel_rfl) ?_)
                  | ((with_reducible refine @id (wpList _ _ _ (Oper.mk _ (Op.load 2 (.tmp 130)) _ _ _ _ :: _) _ _) ?_); refine wpList_load_one (by kernel_rfl) 2 (.tmp 130) rfl (S5) 8 rfl 27 #[.int .i64 n0, .int .i64 n1, .int .i64 n2, .int .i64 n3, .int .i64 n4, .int .i64 n5, .int .i64 n6, .bool n7, .int .i64 ad, .int .i64 st, .int .i64 lf, .slice b l.length c] (0, 0) (J5.out wr hb) (.int .i64 ad) rfl _ Try.underlying2 rfl (by kernel_rfl) ?_))
                go_ret
                exact ⟨rfl, HB.out.trans (hb.mono HB.out.size)⟩
            · have eC : (dC != 0) = true := by simpa using hdC
              go_wp2_with (first
                | ((with_reducible refine @id (wpList _ _ _ (Oper.mk _ (Op.load 2 (.tmp 86)) _ _ _ _ :: _) _ _) ?_); refine wpList_load_one (by kernel_rfl) 2 (.tmp 86) rfl (S11) 10 rfl 27 #[.int .i64 q0, .int .i64 q1, .int .i64 q2, .int .i64 q3, .int .i64 q4, .int .i64 q5, .int .i64 q6, .bool q7, .int .i64 qad, .int .i64 qst, .int .i64 qlf, .slice qb ql.length qc] (0, 0) (J11.out wr hb) (.int .i64 qlf) rfl _ Try.underlying2 rfl (by kernel_rfl) ?_)
                | ((with_reducible refine @id (wpList _ _ _ (Oper.mk _ (Op.load 2 (.tmp 94)) _ _ _ _ :: _) _ _) ?_); refine wpList_load_one (by kernel_rfl) 2 (.tmp 94) rfl (S11) 9 rfl 27 #[.int .i64 q0, .int .i64 q1, .int .i64 q2, .int .i64 q3, .int .i64 q4, .int .i64 q5, .int .i64 q6, .bool q7, .int .i64 qad, .int .i64 qst, .int .i64 qlf, .slice qb ql.length qc] (0, 0) (J11.out wr hb) (.int .i64 qst) rfl _ Try.underlying2 rfl (by kernel_rfl) ?_)
                | ((with_reducible refine @id (wpList _ _ _ (Oper.mk _ (Op.load 2 (.tmp 103)) _ _ _ _ :: _) _ _) ?_); refine wpList_load_one (by kernel_rfl) 2 (.tmp 103) rfl (S8) 13 rfl 31 #[.int .i64 d0, .int .i64 d1, .int .i64 d2, .int .i64 d3, .int .i64 d4, .int .i64 d5, .int .i64 d6, .bool d7, .int .i64 dad, .int .i64 dst, .int .i64 dlf, .slice xa dl.length xc, .bool dS, .int .i64 dC] (0, 0) (J8.out wr hb) (.int .i64 dC) rfl _ Try.underlying2 rfl (by kernel_rfl) ?_)
                | ((with_reducible refine @id (wpList _ _ _ (Oper.mk _ (Op.load 2 (.tmp 123)) _ _ _ _ :: _) _ _) ?_); refine wpList_load_one (by kernel_rfl) 2 (.tmp 123) rfl (S8) 13 rfl 31 #[.int .i64 d0, .int .i64 d1, .int .i64 d2, .int .i64 d3, .int .i64 d4, .int .i64 d5, .int .i64 d6, .bool d7, .int .i64 dad, .int .i64 dst, .int .i64 dlf, .slice xa dl.length xc, .bool dS, .int .i64 dC] (0, 0) (J8.out wr hb) (.int .i64 dC) rfl _ Try.underlying2 rfl (by kernel_rfl) ?_))
              go_ret
              exact ⟨rfl, HB.out.trans (hb.mono HB.out.size)⟩
          · have eq3 : (qst != 3) = true := by simpa using h3
            have hy : yst = 2 := by
              have := ticks_held k hqB HK0.out h3
              rw [ht] at this
              exact this
            subst hy
            clear h3
            by_cases hdC : dC = 0
            · subst hdC
              obtain ⟨c1, c2, c3⟩ := hearO_ok HD.out
              rcases hsm : sameN ⟨n0, n1, n2, n3, n4, n5, n6, n7⟩ ⟨m0, m1, m2, m3, m4, m5, m6, m7⟩
              · have HSame := Lib.hid (show false = sameN ⟨n0, n1, n2, n3, n4, n5, n6, n7⟩ ⟨m0, m1, m2, m3, m4, m5, m6, m7⟩ from hsm.symm)
                unfold sameN at HSame
                dsimp only at HSame
                have c4 := c3
                dsimp only at c4
                rw [hsm] at c4
                by_cases hsa : src = ad ∧ st ≠ 3
                · obtain ⟨hsa, h3⟩ := hsa
                  have h1 := hear_one (m := ⟨m0, m1, m2, m3, m4, m5, m6, m7⟩) c1 hsa h3
                  rw [c4] at h1
                  dsimp only at h1
                  rw [← less_form (clB_of c1).1 c2] at h1
                  obtain ⟨hS, hA⟩ := h1
                  subst hS
                  have HNL := fun W => Lib.hid (implNameLess_any ⟨n0, n1, n2, n3, n4, n5, n6, n7⟩ ⟨m0, m1, m2, m3, m4, m5, m6, m7⟩ W)
                  generalize nmLessB ⟨n0, n1, n2, n3, n4, n5, n6, n7⟩ ⟨m0, m1, m2, m3, m4, m5, m6, m7⟩ = r at hA HNL
                  unfold nmV at HNL
                  dsimp only at HNL
                  have hA2 : (dad == ad) = r := hA
                  have eS : (src != ad) = false := by simp [hsa]
                  have eT : (st == 3) = false := by simpa using h3
                  clear c1 c2 c3 c4 hsm hsa h3 hA
                  go_wp2_with (first
                    | ((with_reducible refine @id (wpList _ _ _ (Oper.mk _ (Op.load 2 (.tmp 86)) _ _ _ _ :: _) _ _) ?_); refine wpList_load_one (by kernel_rfl) 2 (.tmp 86) rfl (S11) 10 rfl 27 #[.int .i64 q0, .int .i64 q1, .int .i64 q2, .int .i64 q3, .int .i64 q4, .int .i64 q5, .int .i64 q6, .bool q7, .int .i64 qad, .int .i64 qst, .int .i64 qlf, .slice qb ql.length qc] (0, 0) (J11.out wr hb) (.int .i64 qlf) rfl _ Try.underlying2 rfl (by kernel_rfl) ?_)
                    | ((with_reducible refine @id (wpList _ _ _ (Oper.mk _ (Op.load 2 (.tmp 94)) _ _ _ _ :: _) _ _) ?_); refine wpList_load_one (by kernel_rfl) 2 (.tmp 94) rfl (S11) 9 rfl 27 #[.int .i64 q0, .int .i64 q1, .int .i64 q2, .int .i64 q3, .int .i64 q4, .int .i64 q5, .int .i64 q6, .bool q7, .int .i64 qad, .int .i64 qst, .int .i64 qlf, .slice qb ql.length qc] (0, 0) (J11.out wr hb) (.int .i64 qst) rfl _ Try.underlying2 rfl (by kernel_rfl) ?_)
                    | ((with_reducible refine @id (wpList _ _ _ (Oper.mk _ (Op.load 2 (.tmp 99)) _ _ _ _ :: _) _ _) ?_); refine wpList_load_one (by kernel_rfl) 2 (.tmp 99) rfl (R13) 9 rfl 31 #[.int .i64 q0, .int .i64 q1, .int .i64 q2, .int .i64 q3, .int .i64 q4, .int .i64 q5, .int .i64 q6, .bool q7, .int .i64 qad, .int .i64 2, .int .i64 ylf, .slice ya ql.length yc, .bool ys, .int .i64 yC] (0, 0) HGk.out (.int .i64 2) rfl _ Try.underlying2 rfl (by kernel_rfl) ?_)
                    | ((with_reducible refine @id (wpList _ _ _ (Oper.mk _ (Op.load 2 (.tmp 103)) _ _ _ _ :: _) _ _) ?_); refine wpList_load_one (by kernel_rfl) 2 (.tmp 103) rfl (S8) 13 rfl 31 #[.int .i64 d0, .int .i64 d1, .int .i64 d2, .int .i64 d3, .int .i64 d4, .int .i64 d5, .int .i64 d6, .bool d7, .int .i64 dad, .int .i64 dst, .int .i64 dlf, .slice xa dl.length xc, .bool true, .int .i64 0] (0, 0) (J8.out wr hb) (.int .i64 0) rfl _ Try.underlying2 rfl (by kernel_rfl) ?_)
                    | ((with_reducible refine @id (wpList _ _ _ (Oper.mk _ (Op.load 24 (.tmp 107)) _ _ _ _ :: _) _ _) ?_); refine wpList_load_at (by kernel_rfl) 24 (.tmp 107) rfl (S5) 0 rfl 27 #[.int .i64 n0, .int .i64 n1, .int .i64 n2, .int .i64 n3, .int .i64 n4, .int .i64 n5, .int .i64 n6, .bool n7, .int .i64 ad, .int .i64 st, .int .i64 lf, .slice b l.length c] (0, 0) (J5.out wr hb) [.int .i64 n0, .int .i64 n1, .int .i64 n2, .int .i64 n3, .int .i64 n4, .int .i64 n5, .int .i64 n6, .bool n7] rfl _ Try.underlying24 rfl (by kernel_rfl) ?_)
                    | ((with_reducible refine @id (wpList _ _ _ (Oper.mk _ (Op.load 24 (.tmp 7)) _ _ _ _ :: _) _ _) ?_); refine wpList_load_at (by kernel_rfl) 24 (.tmp 7) rfl (S7) 0 rfl 24 #[.int .i64 m0, .int .i64 m1, .int .i64 m2, .int .i64 m3, .int .i64 m4, .int .i64 m5, .int .i64 m6, .bool m7] (0, 0) (J7.out wr hb) [.int .i64 m0, .int .i64 m1, .int .i64 m2, .int .i64 m3, .int .i64 m4, .int .i64 m5, .int .i64 m6, .bool m7] rfl _ Try.underlying24 rfl (by kernel_rfl) ?_)
                    | ((with_reducible refine @id (wpList _ _ _ (Oper.mk _ (Op.binOp _ _ _ _ _) _ _ _ _ :: _) _ _) ?_); refine wpList_eql_nm (by kernel_rfl) (.tmp 108) (.tmp 109) _ rfl n0 n1 n2 n3 n4 n5 n6 m0 m1 m2 m3 m4 m5 m6 n7 m7 rfl rfl false HSame.out ?_)
                    | ((with_reducible refine @id (wpList _ _ _ (Oper.mk _ (Op.load 2 (.tmp 114)) _ _ _ _ :: _) _ _) ?_); refine wpList_load_one (by kernel_rfl) 2 (.tmp 114) rfl (S5) 8 rfl 27 #[.int .i64 n0, .int .i64 n1, .int .i64 n2, .int .i64 n3, .int .i64 n4, .int .i64 n5, .int .i64 n6, .bool n7, .int .i64 ad, .int .i64 st, .int .i64 lf, .slice b l.length c] (0, 0) (J5.out wr hb) (.int .i64 ad) rfl _ Try.underlying2 rfl (by kernel_rfl) ?_)
                    | ((with_reducible refine @id (wpList _ _ _ (Oper.mk _ (Op.load 2 (.tmp 119)) _ _ _ _ :: _) _ _) ?_); refine wpList_load_one (by kernel_rfl) 2 (.tmp 119) rfl (S5) 9 rfl 27 #[.int .i64 n0, .int .i64 n1, .int .i64 n2, .int .i64 n3, .int .i64 n4, .int .i64 n5, .int .i64 n6, .bool n7, .int .i64 ad, .int .i64 st, .int .i64 lf, .slice b l.length c] (0, 0) (J5.out wr hb) (.int .i64 st) rfl _ Try.underlying2 rfl (by kernel_rfl) ?_)
                    | ((with_reducible refine @id (wpList _ _ _ (Oper.mk _ (Op.load 2 (.tmp 123)) _ _ _ _ :: _) _ _) ?_); refine wpList_load_one (by kernel_rfl) 2 (.tmp 123) rfl (S8) 13 rfl 31 #[.int .i64 d0, .int .i64 d1, .int .i64 d2, .int .i64 d3, .int .i64 d4, .int .i64 d5, .int .i64 d6, .bool d7, .int .i64 dad, .int .i64 dst, .int .i64 dlf, .slice xa dl.length xc, .bool true, .int .i64 0] (0, 0) (J8.out wr hb) (.int .i64 0) rfl _ Try.underlying2 rfl (by kernel_rfl) ?_)
                    | ((with_reducible refine @id (wpList _ _ _ (Oper.mk _ (Op.load 2 (.tmp 128)) _ _ _ _ :: _) _ _) ?_); refine wpList_load_one (by kernel_rfl) 2 (.tmp 128) rfl (S8) 8 rfl 31 #[.int .i64 d0, .int .i64 d1, .int .i64 d2, .int .i64 d3, .int .i64 d4, .int .i64 d5, .int .i64 d6, .bool d7, .int .i64 dad, .int .i64 dst, .int .i64 dlf, .slice xa dl.length xc, .bool true, .int .i64 0] (0, 0) (J8.out wr hb) (.int .i64 dad) rfl _ Try.underlying2 rfl (by kernel_rfl) ?_)
                    | ((with_reducible refine @id (wpList _ _ _ (Oper.mk _ (Op.load 2 (.tmp 130)) _ _ _ _ :: _) _ _) ?_); refine wpList_load_one (by kernel_rfl) 2 (.tmp 130) rfl (S5) 8 rfl 27 #[.int .i64 n0, .int .i64 n1, .int .i64 n2, .int .i64 n3, .int .i64 n4, .int .i64 n5, .int .i64 n6, .bool n7, .int .i64 ad, .int .i64 st, .int .i64 lf, .slice b l.length c] (0, 0) (J5.out wr hb) (.int .i64 ad) rfl _ Try.underlying2 rfl (by kernel_rfl) ?_))
                  refine wp_region_anyordG (fun W => Below U.heap.size U W) (fun W W' => Below W.heap.size W W') (fun i _ v => v = (#[.pointer (some ⟨S8, 12, none⟩), .bool true, .bool true, .pointer (some ⟨S8, 0, none⟩), .pointer (some ⟨S8, 8, none⟩), .int .i64 dad, .pointer (some ⟨S5, 8, none⟩), .int .i64 ad, .bool r, .pointer (some ⟨S5, 0, none⟩), .agg #[.int .i64 n0, .int .i64 n1, .int .i64 n2, .int .i64 n3, .int .i64 n4, .int .i64 n5, .int .i64 n6, .bool n7], .agg #[.int .i64 m0, .int .i64 m1, .int .i64 m2, .int .i64 m3, .int .i64 m4, .int .i64 m5, .int .i64 m6, .bool m7], .bool r, .bool true, .bool true, .bool true] : Array Value).getD i undef) (by kernel_rfl) (by kernel_rfl) (by kernel_rfl) (fun _ _ _ _ _ h => h) hb.drew ?_ ?_
                  · refine ⟨⟨.inl rfl, fun a1 W hC hK => ?_⟩, ⟨.inl rfl, fun a1 W hC hK => ?_⟩, ⟨.inl rfl, fun a1 W hC hK => ?_⟩, ⟨GuardOn.on 2 true 136 (fun _ _ h => h) rfl (by kernel_rfl) rfl rfl (by kernel_rfl), fun a1 W hC hK => ?_⟩, ⟨GuardOn.on 2 true 136 (fun _ _ h => h) rfl (by kernel_rfl) rfl rfl (by kernel_rfl), fun a1 W hC hK => ?_⟩, ⟨GuardOn.on 2 true 136 (fun _ _ h => h) rfl (by kernel_rfl) rfl rfl (by kernel_rfl), fun a1 W hC hK => ?_⟩, ⟨GuardOn.on 2 true 136 (fun _ _ h => h) rfl (by kernel_rfl) rfl rfl (by kernel_rfl), fun a1 W hC hK => ?_⟩, ⟨GuardOn.on 2 true 136 (fun _ _ h => h) rfl (by kernel_rfl) rfl rfl (by kernel_rfl), fun a1 W hC hK => ?_⟩, ⟨GuardOn.on 2 true 136 (fun _ _ h => h) rfl (by kernel_rfl) rfl rfl (by kernel_rfl), fun a1 W hC hK => ?_⟩, ⟨GuardOn.on 2 true 136 (fun _ _ h => h) rfl (by kernel_rfl) rfl rfl (by kernel_rfl), fun a1 W hC hK => ?_⟩, ⟨GuardOn.on 2 true 136 (fun _ _ h => h) rfl (by kernel_rfl) rfl rfl (by kernel_rfl), fun a1 W hC hK => ?_⟩, ⟨GuardOn.on 2 true 136 (fun _ _ h => h) rfl (by kernel_rfl) rfl rfl (by kernel_rfl), fun a1 W hC hK => ?_⟩, ⟨GuardOn.on 2 true 136 (fun _ _ h => h) rfl (by kernel_rfl) rfl rfl (by kernel_rfl), fun a1 W hC hK => ?_⟩, ⟨GuardOn.on 2 true 136 (fun _ _ h => h) rfl (by kernel_rfl) rfl rfl (by kernel_rfl), fun a1 W hC hK => ?_⟩, ⟨.inl rfl, fun a1 W hC hK => ?_⟩, ⟨.inl rfl, fun a1 W hC hK => ?_⟩, trivial⟩
                    · skip
                      have e1 : a1.eval (.tmp 8) = .pointer (some ⟨S8, 0, none⟩) := (hK.old 8 (by kernel_rfl)).trans rfl
                      simp only [Act.eval, Array.getD_eq_getD_getElem?] at e1
                      exact ob_value (v := .pointer (some ⟨S8, 12, none⟩)) (w' := W) (by simp [execOp, go_sem, e1]) ⟨_, rfl, hC, Below.refl _ _, rfl⟩
                    · skip
                      have e1 : a1.eval (.tmp 134) = .pointer (some ⟨S8, 12, none⟩) := hK.get 0 134 (by kernel_rfl) rfl rfl (by kernel_rfl)
                      have hcl : W.cell? ⟨S8, 12, none⟩ = some (.bool true) := (cell_of_row W S8 12 _ _ (0, 0) (J8.out W hC)).trans rfl
                      simp only [Act.eval, Array.getD_eq_getD_getElem?] at e1
                      exact ob_value (v := .bool true) (w' := W) (by simp [execOp, go_sem, e1, hcl]) ⟨_, rfl, hC, Below.refl _ _, rfl⟩
                    · skip
                      have e1 : a1.eval (.tmp 135) = .bool true := hK.get 1 135 (by kernel_rfl) rfl rfl (by kernel_rfl)
                      exact ob_move rfl ⟨_, rfl, hC, Below.refl _ _, e1⟩
                    · skip
                      have e1 : a1.eval (.tmp 8) = .pointer (some ⟨S8, 0, none⟩) := (hK.old 8 (by kernel_rfl)).trans rfl
                      simp only [Act.eval, Array.getD_eq_getD_getElem?] at e1
                      exact ob_value (v := .pointer (some ⟨S8, 0, none⟩)) (w' := W) (by simp [execOp, go_sem, e1]) ⟨_, rfl, hC, Below.refl _ _, rfl⟩
                    · skip
                      have e1 : a1.eval (.tmp 137) = .pointer (some ⟨S8, 0, none⟩) := hK.get 3 137 (by kernel_rfl) rfl rfl (by kernel_rfl)
                      simp only [Act.eval, Array.getD_eq_getD_getElem?] at e1
                      exact ob_value (v := .pointer (some ⟨S8, 8, none⟩)) (w' := W) (by simp [execOp, go_sem, e1]) ⟨_, rfl, hC, Below.refl _ _, rfl⟩
                    · skip
                      have e1 : a1.eval (.tmp 138) = .pointer (some ⟨S8, 8, none⟩) := hK.get 4 138 (by kernel_rfl) rfl rfl (by kernel_rfl)
                      have hcl : W.cell? ⟨S8, 8, none⟩ = some (.int .i64 dad) := (cell_of_row W S8 8 _ _ (0, 0) (J8.out W hC)).trans rfl
                      simp only [Act.eval, Array.getD_eq_getD_getElem?] at e1
                      exact ob_value (v := .int .i64 dad) (w' := W) (by simp [execOp, go_sem, e1, hcl]) ⟨_, rfl, hC, Below.refl _ _, rfl⟩
                    · skip
                      have e1 : a1.eval (.tmp 5) = .pointer (some ⟨S5, 0, none⟩) := (hK.old 5 (by kernel_rfl)).trans rfl
                      simp only [Act.eval, Array.getD_eq_getD_getElem?] at e1
                      exact ob_value (v := .pointer (some ⟨S5, 8, none⟩)) (w' := W) (by simp [execOp, go_sem, e1]) ⟨_, rfl, hC, Below.refl _ _, rfl⟩
                    · skip
                      have e1 : a1.eval (.tmp 140) = .pointer (some ⟨S5, 8, none⟩) := hK.get 6 140 (by kernel_rfl) rfl rfl (by kernel_rfl)
                      have hcl : W.cell? ⟨S5, 8, none⟩ = some (.int .i64 ad) := (cell_of_row W S5 8 _ _ (0, 0) (J5.out W hC)).trans rfl
                      simp only [Act.eval, Array.getD_eq_getD_getElem?] at e1
                      exact ob_value (v := .int .i64 ad) (w' := W) (by simp [execOp, go_sem, e1, hcl]) ⟨_, rfl, hC, Below.refl _ _, rfl⟩
                    · skip
                      have e1 : a1.eval (.tmp 139) = .int .i64 dad := hK.get 5 139 (by kernel_rfl) rfl rfl (by kernel_rfl)
                      have e2 : a1.eval (.tmp 141) = .int .i64 ad := hK.get 7 141 (by kernel_rfl) rfl rfl (by kernel_rfl)
                      simp only [Act.eval, Array.getD_eq_getD_getElem?] at e1 e2
                      exact ob_value (v := .bool r) (w' := W) (by simp [execOp, go_sem, e1, e2, hA2]) ⟨_, rfl, hC, Below.refl _ _, rfl⟩
                    · skip
                      have e1 : a1.eval (.tmp 5) = .pointer (some ⟨S5, 0, none⟩) := (hK.old 5 (by kernel_rfl)).trans rfl
                      simp only [Act.eval, Array.getD_eq_getD_getElem?] at e1
                      exact ob_value (v := .pointer (some ⟨S5, 0, none⟩)) (w' := W) (by simp [execOp, go_sem, e1]) ⟨_, rfl, hC, Below.refl _ _, rfl⟩
                    · skip
                      have e1 : a1.eval (.tmp 143) = .pointer (some ⟨S5, 0, none⟩) := hK.get 9 143 (by kernel_rfl) rfl rfl (by kernel_rfl)
                      exact wp_load_mid 24 (.tmp 143) rfl S5 0 e1 [.int .i64 n0, .int .i64 n1, .int .i64 n2, .int .i64 n3, .int .i64 n4, .int .i64 n5, .int .i64 n6, .bool n7] _ (fun j v hv => by
                        have hl : j < 8 := by simpa using (List.getElem?_eq_some_iff.1 hv).1
                        rw [cell_of_row W S5 (0 + j) _ _ (0, 0) (J5.out W hC)]
                        match j, hl, hv with
                        | 0, _, hv => exact hv
                        | 1, _, hv => exact hv
                        | 2, _, hv => exact hv
                        | 3, _, hv => exact hv
                        | 4, _, hv => exact hv
                        | 5, _, hv => exact hv
                        | 6, _, hv => exact hv
                        | 7, _, hv => exact hv) Try.underlying24 rfl (by kernel_rfl) ⟨_, rfl, hC, Below.refl _ _, rfl⟩
                    · skip
                      have e1 : a1.eval (.tmp 7) = .pointer (some ⟨S7, 0, none⟩) := (hK.old 7 (by kernel_rfl)).trans rfl
                      exact wp_load_mid 24 (.tmp 7) rfl S7 0 e1 [.int .i64 m0, .int .i64 m1, .int .i64 m2, .int .i64 m3, .int .i64 m4, .int .i64 m5, .int .i64 m6, .bool m7] _ (fun j v hv => by
                        have hl : j < 8 := by simpa using (List.getElem?_eq_some_iff.1 hv).1
                        rw [cell_of_row W S7 (0 + j) _ _ (0, 0) (J7.out W hC)]
                        match j, hl, hv with
                        | 0, _, hv => exact hv
                        | 1, _, hv => exact hv
                        | 2, _, hv => exact hv
                        | 3, _, hv => exact hv
                        | 4, _, hv => exact hv
                        | 5, _, hv => exact hv
                        | 6, _, hv => exact hv
                        | 7, _, hv => exact hv) Try.underlying24 rfl (by kernel_rfl) ⟨_, rfl, hC, Below.refl _ _, rfl⟩
                    · have e1 : a1.eval (.tmp 144) = .agg #[.int .i64 n0, .int .i64 n1, .int .i64 n2, .int .i64 n3, .int .i64 n4, .int .i64 n5, .int .i64 n6, .bool n7] := hK.get 10 144 (by kernel_rfl) rfl rfl (by kernel_rfl)
                      have e2 : a1.eval (.tmp 145) = .agg #[.int .i64 m0, .int .i64 m1, .int .i64 m2, .int .i64 m3, .int .i64 m4, .int .i64 m5, .int .i64 m6, .bool m7] := hK.get 11 145 (by kernel_rfl) rfl rfl (by kernel_rfl)
                      refine ob_call rfl Try.func26 (by kernel_rfl) (by kernel_rfl) (vals := #[.agg #[.int .i64 n0, .int .i64 n1, .int .i64 n2, .int .i64 n3, .int .i64 n4, .int .i64 n5, .int .i64 n6, .bool n7], .agg #[.int .i64 m0, .int .i64 m1, .int .i64 m2, .int .i64 m3, .int .i64 m4, .int .i64 m5, .int .i64 m6, .bool m7]]) (by simp [e1, e2]) ?_
                      refine (HNL W).out.mono ?_
                      rintro e W' ⟨rfl, h⟩
                      exact ⟨_, rfl, _, rfl, hC.trans (h.mono hC.size), h, rfl⟩
                    · skip
                      have e1 : a1.eval (.tmp 142) = .bool r := hK.get 8 142 (by kernel_rfl) rfl rfl (by kernel_rfl)
                      have e2 : a1.eval (.tmp 146) = .bool r := hK.get 12 146 (by kernel_rfl) rfl rfl (by kernel_rfl)
                      simp only [Act.eval, Array.getD_eq_getD_getElem?] at e1 e2
                      exact ob_value (v := .bool true) (w' := W) (by simp [execOp, go_sem, e1, e2]) ⟨_, rfl, hC, Below.refl _ _, rfl⟩
                    · skip
                      have e1 : a1.eval (.tmp 136) = .bool true := hK.get 2 136 (by kernel_rfl) rfl rfl (by kernel_rfl)
                      have e2 : a1.eval (.tmp 147) = .bool true := hK.get 13 147 (by kernel_rfl) rfl rfl (by kernel_rfl)
                      simp only [Act.eval, Array.getD_eq_getD_getElem?] at e1 e2
                      exact ob_value (v := .bool true) (w' := W) (by simp [execOp, go_sem, e1, e2]) ⟨_, rfl, hC, Below.refl _ _, rfl⟩
                    · skip
                      have e1 : a1.eval (.tmp 148) = .bool true := hK.get 14 148 (by kernel_rfl) rfl rfl (by kernel_rfl)
                      exact ob_value (BigFrame.run_assign _ rfl W) ⟨_, rfl, hC, Below.refl _ _, e1⟩
                  · intro vs W2 hC9 hT
                    have ex : vs 15 = .bool true := hT 15 (by decide)
                    simp only [fillL, if_true, Act.put, List.setIfInBounds_toArray, List.set_cons_zero, List.set_cons_succ, ex]
                    clear hT ex
                    go_wp2_with fail
                    go_ret
                    exact ⟨rfl, HB.out.trans (hC9.mono HB.out.size)⟩
                · have ho : src ≠ ad ∨ st = 3 := (Classical.em (src = ad)).elim (fun h => .inr (Classical.byContradiction fun h3 => hsa ⟨h, h3⟩)) (fun h => .inl h)
                  have hda := congrArg (fun p : Cl × Bool => p.1.ad) ((hearC_off (n := ⟨n0, n1, n2, n3, n4, n5, n6, n7⟩) (lf := lf) (l := l) (m := ⟨m0, m1, m2, m3, m4, m5, m6, m7⟩) ho).symm.trans c4)
                  dsimp only at hda
                  have eA : (dad == ad) = true := by simp [hda]
                  clear c1 c2 c3 c4 hsm hsa hda
                  by_cases hsa : src = ad
                  · have eS : (src != ad) = false := by simp [hsa]
                    have eT : (st == 3) = true := by rcases ho with h | h; exact absurd hsa h; simp [h]
                    clear hsa ho
                    go_wp2_with (first
                      | ((with_reducible refine @id (wpList _ _ _ (Oper.mk _ (Op.load 2 (.tmp 86)) _ _ _ _ :: _) _ _) ?_); refine wpList_load_one (by kernel_rfl) 2 (.tmp 86) rfl (S11) 10 rfl 27 #[.int .i64 q0, .int .i64 q1, .int .i64 q2, .int .i64 q3, .int .i64 q4, .int .i64 q5, .int .i64 q6, .bool q7, .int .i64 qad, .int .i64 qst, .int .i64 qlf, .slice qb ql.length qc] (0, 0) (J11.out wr hb) (.int .i64 qlf) rfl _ Try.underlying2 rfl (by kernel_rfl) ?_)
                      | ((with_reducible refine @id (wpList _ _ _ (Oper.mk _ (Op.load 2 (.tmp 94)) _ _ _ _ :: _) _ _) ?_); refine wpList_load_one (by kernel_rfl) 2 (.tmp 94) rfl (S11) 9 rfl 27 #[.int .i64 q0, .int .i64 q1, .int .i64 q2, .int .i64 q3, .int .i64 q4, .int .i64 q5, .int .i64 q6, .bool q7, .int .i64 qad, .int .i64 qst, .int .i64 qlf, .slice qb ql.length qc] (0, 0) (J11.out wr hb) (.int .i64 qst) rfl _ Try.underlying2 rfl (by kernel_rfl) ?_)
                      | ((with_reducible refine @id (wpList _ _ _ (Oper.mk _ (Op.load 2 (.tmp 99)) _ _ _ _ :: _) _ _) ?_); refine wpList_load_one (by kernel_rfl) 2 (.tmp 99) rfl (R13) 9 rfl 31 #[.int .i64 q0, .int .i64 q1, .int .i64 q2, .int .i64 q3, .int .i64 q4, .int .i64 q5, .int .i64 q6, .bool q7, .int .i64 qad, .int .i64 2, .int .i64 ylf, .slice ya ql.length yc, .bool ys, .int .i64 yC] (0, 0) HGk.out (.int .i64 2) rfl _ Try.underlying2 rfl (by kernel_rfl) ?_)
                      | ((with_reducible refine @id (wpList _ _ _ (Oper.mk _ (Op.load 2 (.tmp 103)) _ _ _ _ :: _) _ _) ?_); refine wpList_load_one (by kernel_rfl) 2 (.tmp 103) rfl (S8) 13 rfl 31 #[.int .i64 d0, .int .i64 d1, .int .i64 d2, .int .i64 d3, .int .i64 d4, .int .i64 d5, .int .i64 d6, .bool d7, .int .i64 dad, .int .i64 dst, .int .i64 dlf, .slice xa dl.length xc, .bool dS, .int .i64 0] (0, 0) (J8.out wr hb) (.int .i64 0) rfl _ Try.underlying2 rfl (by kernel_rfl) ?_)
                      | ((with_reducible refine @id (wpList _ _ _ (Oper.mk _ (Op.load 24 (.tmp 107)) _ _ _ _ :: _) _ _) ?_); refine wpList_load_at (by kernel_rfl) 24 (.tmp 107) rfl (S5) 0 rfl 27 #[.int .i64 n0, .int .i64 n1, .int .i64 n2, .int .i64 n3, .int .i64 n4, .int .i64 n5, .int .i64 n6, .bool n7, .int .i64 ad, .int .i64 st, .int .i64 lf, .slice b l.length c] (0, 0) (J5.out wr hb) [.int .i64 n0, .int .i64 n1, .int .i64 n2, .int .i64 n3, .int .i64 n4, .int .i64 n5, .int .i64 n6, .bool n7] rfl _ Try.underlying24 rfl (by kernel_rfl) ?_)
                      | ((with_reducible refine @id (wpList _ _ _ (Oper.mk _ (Op.load 24 (.tmp 7)) _ _ _ _ :: _) _ _) ?_); refine wpList_load_at (by kernel_rfl) 24 (.tmp 7) rfl (S7) 0 rfl 24 #[.int .i64 m0, .int .i64 m1, .int .i64 m2, .int .i64 m3, .int .i64 m4, .int .i64 m5, .int .i64 m6, .bool m7] (0, 0) (J7.out wr hb) [.int .i64 m0, .int .i64 m1, .int .i64 m2, .int .i64 m3, .int .i64 m4, .int .i64 m5, .int .i64 m6, .bool m7] rfl _ Try.underlying24 rfl (by kernel_rfl) ?_)
                      | ((with_reducible refine @id (wpList _ _ _ (Oper.mk _ (Op.binOp _ _ _ _ _) _ _ _ _ :: _) _ _) ?_); refine wpList_eql_nm (by kernel_rfl) (.tmp 108) (.tmp 109) _ rfl n0 n1 n2 n3 n4 n5 n6 m0 m1 m2 m3 m4 m5 m6 n7 m7 rfl rfl false HSame.out ?_)
                      | ((with_reducible refine @id (wpList _ _ _ (Oper.mk _ (Op.load 2 (.tmp 114)) _ _ _ _ :: _) _ _) ?_); refine wpList_load_one (by kernel_rfl) 2 (.tmp 114) rfl (S5) 8 rfl 27 #[.int .i64 n0, .int .i64 n1, .int .i64 n2, .int .i64 n3, .int .i64 n4, .int .i64 n5, .int .i64 n6, .bool n7, .int .i64 ad, .int .i64 st, .int .i64 lf, .slice b l.length c] (0, 0) (J5.out wr hb) (.int .i64 ad) rfl _ Try.underlying2 rfl (by kernel_rfl) ?_)
                      | ((with_reducible refine @id (wpList _ _ _ (Oper.mk _ (Op.load 2 (.tmp 119)) _ _ _ _ :: _) _ _) ?_); refine wpList_load_one (by kernel_rfl) 2 (.tmp 119) rfl (S5) 9 rfl 27 #[.int .i64 n0, .int .i64 n1, .int .i64 n2, .int .i64 n3, .int .i64 n4, .int .i64 n5, .int .i64 n6, .bool n7, .int .i64 ad, .int .i64 st, .int .i64 lf, .slice b l.length c] (0, 0) (J5.out wr hb) (.int .i64 st) rfl _ Try.underlying2 rfl (by kernel_rfl) ?_)
                      | ((with_reducible refine @id (wpList _ _ _ (Oper.mk _ (Op.load 2 (.tmp 123)) _ _ _ _ :: _) _ _) ?_); refine wpList_load_one (by kernel_rfl) 2 (.tmp 123) rfl (S8) 13 rfl 31 #[.int .i64 d0, .int .i64 d1, .int .i64 d2, .int .i64 d3, .int .i64 d4, .int .i64 d5, .int .i64 d6, .bool d7, .int .i64 dad, .int .i64 dst, .int .i64 dlf, .slice xa dl.length xc, .bool dS, .int .i64 0] (0, 0) (J8.out wr hb) (.int .i64 0) rfl _ Try.underlying2 rfl (by kernel_rfl) ?_)
                      | ((with_reducible refine @id (wpList _ _ _ (Oper.mk _ (Op.load 2 (.tmp 128)) _ _ _ _ :: _) _ _) ?_); refine wpList_load_one (by kernel_rfl) 2 (.tmp 128) rfl (S8) 8 rfl 31 #[.int .i64 d0, .int .i64 d1, .int .i64 d2, .int .i64 d3, .int .i64 d4, .int .i64 d5, .int .i64 d6, .bool d7, .int .i64 dad, .int .i64 dst, .int .i64 dlf, .slice xa dl.length xc, .bool dS, .int .i64 0] (0, 0) (J8.out wr hb) (.int .i64 dad) rfl _ Try.underlying2 rfl (by kernel_rfl) ?_)
                      | ((with_reducible refine @id (wpList _ _ _ (Oper.mk _ (Op.load 2 (.tmp 130)) _ _ _ _ :: _) _ _) ?_); refine wpList_load_one (by kernel_rfl) 2 (.tmp 130) rfl (S5) 8 rfl 27 #[.int .i64 n0, .int .i64 n1, .int .i64 n2, .int .i64 n3, .int .i64 n4, .int .i64 n5, .int .i64 n6, .bool n7, .int .i64 ad, .int .i64 st, .int .i64 lf, .slice b l.length c] (0, 0) (J5.out wr hb) (.int .i64 ad) rfl _ Try.underlying2 rfl (by kernel_rfl) ?_))
                    go_ret
                    exact ⟨rfl, HB.out.trans (hb.mono HB.out.size)⟩
                  · have eS : (src != ad) = true := by simpa using hsa
                    clear hsa ho
                    go_wp2_with (first
                      | ((with_reducible refine @id (wpList _ _ _ (Oper.mk _ (Op.load 2 (.tmp 86)) _ _ _ _ :: _) _ _) ?_); refine wpList_load_one (by kernel_rfl) 2 (.tmp 86) rfl (S11) 10 rfl 27 #[.int .i64 q0, .int .i64 q1, .int .i64 q2, .int .i64 q3, .int .i64 q4, .int .i64 q5, .int .i64 q6, .bool q7, .int .i64 qad, .int .i64 qst, .int .i64 qlf, .slice qb ql.length qc] (0, 0) (J11.out wr hb) (.int .i64 qlf) rfl _ Try.underlying2 rfl (by kernel_rfl) ?_)
                      | ((with_reducible refine @id (wpList _ _ _ (Oper.mk _ (Op.load 2 (.tmp 94)) _ _ _ _ :: _) _ _) ?_); refine wpList_load_one (by kernel_rfl) 2 (.tmp 94) rfl (S11) 9 rfl 27 #[.int .i64 q0, .int .i64 q1, .int .i64 q2, .int .i64 q3, .int .i64 q4, .int .i64 q5, .int .i64 q6, .bool q7, .int .i64 qad, .int .i64 qst, .int .i64 qlf, .slice qb ql.length qc] (0, 0) (J11.out wr hb) (.int .i64 qst) rfl _ Try.underlying2 rfl (by kernel_rfl) ?_)
                      | ((with_reducible refine @id (wpList _ _ _ (Oper.mk _ (Op.load 2 (.tmp 99)) _ _ _ _ :: _) _ _) ?_); refine wpList_load_one (by kernel_rfl) 2 (.tmp 99) rfl (R13) 9 rfl 31 #[.int .i64 q0, .int .i64 q1, .int .i64 q2, .int .i64 q3, .int .i64 q4, .int .i64 q5, .int .i64 q6, .bool q7, .int .i64 qad, .int .i64 2, .int .i64 ylf, .slice ya ql.length yc, .bool ys, .int .i64 yC] (0, 0) HGk.out (.int .i64 2) rfl _ Try.underlying2 rfl (by kernel_rfl) ?_)
                      | ((with_reducible refine @id (wpList _ _ _ (Oper.mk _ (Op.load 2 (.tmp 103)) _ _ _ _ :: _) _ _) ?_); refine wpList_load_one (by kernel_rfl) 2 (.tmp 103) rfl (S8) 13 rfl 31 #[.int .i64 d0, .int .i64 d1, .int .i64 d2, .int .i64 d3, .int .i64 d4, .int .i64 d5, .int .i64 d6, .bool d7, .int .i64 dad, .int .i64 dst, .int .i64 dlf, .slice xa dl.length xc, .bool dS, .int .i64 0] (0, 0) (J8.out wr hb) (.int .i64 0) rfl _ Try.underlying2 rfl (by kernel_rfl) ?_)
                      | ((with_reducible refine @id (wpList _ _ _ (Oper.mk _ (Op.load 24 (.tmp 107)) _ _ _ _ :: _) _ _) ?_); refine wpList_load_at (by kernel_rfl) 24 (.tmp 107) rfl (S5) 0 rfl 27 #[.int .i64 n0, .int .i64 n1, .int .i64 n2, .int .i64 n3, .int .i64 n4, .int .i64 n5, .int .i64 n6, .bool n7, .int .i64 ad, .int .i64 st, .int .i64 lf, .slice b l.length c] (0, 0) (J5.out wr hb) [.int .i64 n0, .int .i64 n1, .int .i64 n2, .int .i64 n3, .int .i64 n4, .int .i64 n5, .int .i64 n6, .bool n7] rfl _ Try.underlying24 rfl (by kernel_rfl) ?_)
                      | ((with_reducible refine @id (wpList _ _ _ (Oper.mk _ (Op.load 24 (.tmp 7)) _ _ _ _ :: _) _ _) ?_); refine wpList_load_at (by kernel_rfl) 24 (.tmp 7) rfl (S7) 0 rfl 24 #[.int .i64 m0, .int .i64 m1, .int .i64 m2, .int .i64 m3, .int .i64 m4, .int .i64 m5, .int .i64 m6, .bool m7] (0, 0) (J7.out wr hb) [.int .i64 m0, .int .i64 m1, .int .i64 m2, .int .i64 m3, .int .i64 m4, .int .i64 m5, .int .i64 m6, .bool m7] rfl _ Try.underlying24 rfl (by kernel_rfl) ?_)
                      | ((with_reducible refine @id (wpList _ _ _ (Oper.mk _ (Op.binOp _ _ _ _ _) _ _ _ _ :: _) _ _) ?_); refine wpList_eql_nm (by kernel_rfl) (.tmp 108) (.tmp 109) _ rfl n0 n1 n2 n3 n4 n5 n6 m0 m1 m2 m3 m4 m5 m6 n7 m7 rfl rfl false HSame.out ?_)
                      | ((with_reducible refine @id (wpList _ _ _ (Oper.mk _ (Op.load 2 (.tmp 114)) _ _ _ _ :: _) _ _) ?_); refine wpList_load_one (by kernel_rfl) 2 (.tmp 114) rfl (S5) 8 rfl 27 #[.int .i64 n0, .int .i64 n1, .int .i64 n2, .int .i64 n3, .int .i64 n4, .int .i64 n5, .int .i64 n6, .bool n7, .int .i64 ad, .int .i64 st, .int .i64 lf, .slice b l.length c] (0, 0) (J5.out wr hb) (.int .i64 ad) rfl _ Try.underlying2 rfl (by kernel_rfl) ?_)
                      | ((with_reducible refine @id (wpList _ _ _ (Oper.mk _ (Op.load 2 (.tmp 119)) _ _ _ _ :: _) _ _) ?_); refine wpList_load_one (by kernel_rfl) 2 (.tmp 119) rfl (S5) 9 rfl 27 #[.int .i64 n0, .int .i64 n1, .int .i64 n2, .int .i64 n3, .int .i64 n4, .int .i64 n5, .int .i64 n6, .bool n7, .int .i64 ad, .int .i64 st, .int .i64 lf, .slice b l.length c] (0, 0) (J5.out wr hb) (.int .i64 st) rfl _ Try.underlying2 rfl (by kernel_rfl) ?_)
                      | ((with_reducible refine @id (wpList _ _ _ (Oper.mk _ (Op.load 2 (.tmp 123)) _ _ _ _ :: _) _ _) ?_); refine wpList_load_one (by kernel_rfl) 2 (.tmp 123) rfl (S8) 13 rfl 31 #[.int .i64 d0, .int .i64 d1, .int .i64 d2, .int .i64 d3, .int .i64 d4, .int .i64 d5, .int .i64 d6, .bool d7, .int .i64 dad, .int .i64 dst, .int .i64 dlf, .slice xa dl.length xc, .bool dS, .int .i64 0] (0, 0) (J8.out wr hb) (.int .i64 0) rfl _ Try.underlying2 rfl (by kernel_rfl) ?_)
                      | ((with_reducible refine @id (wpList _ _ _ (Oper.mk _ (Op.load 2 (.tmp 128)) _ _ _ _ :: _) _ _) ?_); refine wpList_load_one (by kernel_rfl) 2 (.tmp 128) rfl (S8) 8 rfl 31 #[.int .i64 d0, .int .i64 d1, .int .i64 d2, .int .i64 d3, .int .i64 d4, .int .i64 d5, .int .i64 d6, .bool d7, .int .i64 dad, .int .i64 dst, .int .i64 dlf, .slice xa dl.length xc, .bool dS, .int .i64 0] (0, 0) (J8.out wr hb) (.int .i64 dad) rfl _ Try.underlying2 rfl (by kernel_rfl) ?_)
                      | ((with_reducible refine @id (wpList _ _ _ (Oper.mk _ (Op.load 2 (.tmp 130)) _ _ _ _ :: _) _ _) ?_); refine wpList_load_one (by kernel_rfl) 2 (.tmp 130) rfl (S5) 8 rfl 27 #[.int .i64 n0, .int .i64 n1, .int .i64 n2, .int .i64 n3, .int .i64 n4, .int .i64 n5, .int .i64 n6, .bool n7, .int .i64 ad, .int .i64 st, .int .i64 lf, .slice b l.length c] (0, 0) (J5.out wr hb) (.int .i64 ad) rfl _ Try.underlying2 rfl (by kernel_rfl) ?_))
                    go_ret
                    exact ⟨rfl, HB.out.trans (hb.mono HB.out.size)⟩
              · have HSame := Lib.hid (show true = sameN ⟨n0, n1, n2, n3, n4, n5, n6, n7⟩ ⟨m0, m1, m2, m3, m4, m5, m6, m7⟩ from hsm.symm)
                unfold sameN at HSame
                dsimp only at HSame
                have c4 := c3
                dsimp only at c4
                rw [hsm] at c4
                have hda := congrArg (fun p : Cl × Bool => p.1.ad) ((hearC_same (n := ⟨n0, n1, n2, n3, n4, n5, n6, n7⟩) (ad := ad) (st := st) (lf := lf) (l := l) (s := src) (m := ⟨m0, m1, m2, m3, m4, m5, m6, m7⟩)).symm.trans c4)
                dsimp only at hda
                have eA : (dad == ad) = true := by simp [hda]
                clear c1 c2 c3 c4 hsm hda
                go_wp2_with (first
                  | ((with_reducible refine @id (wpList _ _ _ (Oper.mk _ (Op.load 2 (.tmp 86)) _ _ _ _ :: _) _ _) ?_); refine wpList_load_one (by kernel_rfl) 2 (.tmp 86) rfl (S11) 10 rfl 27 #[.int .i64 q0, .int .i64 q1, .int .i64 q2, .int .i64 q3, .int .i64 q4, .int .i64 q5, .int .i64 q6, .bool q7, .int .i64 qad, .int .i64 qst, .int .i64 qlf, .slice qb ql.length qc] (0, 0) (J11.out wr hb) (.int .i64 qlf) rfl _ Try.underlying2 rfl (by kernel_rfl) ?_)
                  | ((with_reducible refine @id (wpList _ _ _ (Oper.mk _ (Op.load 2 (.tmp 94)) _ _ _ _ :: _) _ _) ?_); refine wpList_load_one (by kernel_rfl) 2 (.tmp 94) rfl (S11) 9 rfl 27 #[.int .i64 q0, .int .i64 q1, .int .i64 q2, .int .i64 q3, .int .i64 q4, .int .i64 q5, .int .i64 q6, .bool q7, .int .i64 qad, .int .i64 qst, .int .i64 qlf, .slice qb ql.length qc] (0, 0) (J11.out wr hb) (.int .i64 qst) rfl _ Try.underlying2 rfl (by kernel_rfl) ?_)
                  | ((with_reducible refine @id (wpList _ _ _ (Oper.mk _ (Op.load 2 (.tmp 99)) _ _ _ _ :: _) _ _) ?_); refine wpList_load_one (by kernel_rfl) 2 (.tmp 99) rfl (R13) 9 rfl 31 #[.int .i64 q0, .int .i64 q1, .int .i64 q2, .int .i64 q3, .int .i64 q4, .int .i64 q5, .int .i64 q6, .bool q7, .int .i64 qad, .int .i64 2, .int .i64 ylf, .slice ya ql.length yc, .bool ys, .int .i64 yC] (0, 0) HGk.out (.int .i64 2) rfl _ Try.underlying2 rfl (by kernel_rfl) ?_)
                  | ((with_reducible refine @id (wpList _ _ _ (Oper.mk _ (Op.load 2 (.tmp 103)) _ _ _ _ :: _) _ _) ?_); refine wpList_load_one (by kernel_rfl) 2 (.tmp 103) rfl (S8) 13 rfl 31 #[.int .i64 d0, .int .i64 d1, .int .i64 d2, .int .i64 d3, .int .i64 d4, .int .i64 d5, .int .i64 d6, .bool d7, .int .i64 dad, .int .i64 dst, .int .i64 dlf, .slice xa dl.length xc, .bool dS, .int .i64 0] (0, 0) (J8.out wr hb) (.int .i64 0) rfl _ Try.underlying2 rfl (by kernel_rfl) ?_)
                  | ((with_reducible refine @id (wpList _ _ _ (Oper.mk _ (Op.load 24 (.tmp 107)) _ _ _ _ :: _) _ _) ?_); refine wpList_load_at (by kernel_rfl) 24 (.tmp 107) rfl (S5) 0 rfl 27 #[.int .i64 n0, .int .i64 n1, .int .i64 n2, .int .i64 n3, .int .i64 n4, .int .i64 n5, .int .i64 n6, .bool n7, .int .i64 ad, .int .i64 st, .int .i64 lf, .slice b l.length c] (0, 0) (J5.out wr hb) [.int .i64 n0, .int .i64 n1, .int .i64 n2, .int .i64 n3, .int .i64 n4, .int .i64 n5, .int .i64 n6, .bool n7] rfl _ Try.underlying24 rfl (by kernel_rfl) ?_)
                  | ((with_reducible refine @id (wpList _ _ _ (Oper.mk _ (Op.load 24 (.tmp 7)) _ _ _ _ :: _) _ _) ?_); refine wpList_load_at (by kernel_rfl) 24 (.tmp 7) rfl (S7) 0 rfl 24 #[.int .i64 m0, .int .i64 m1, .int .i64 m2, .int .i64 m3, .int .i64 m4, .int .i64 m5, .int .i64 m6, .bool m7] (0, 0) (J7.out wr hb) [.int .i64 m0, .int .i64 m1, .int .i64 m2, .int .i64 m3, .int .i64 m4, .int .i64 m5, .int .i64 m6, .bool m7] rfl _ Try.underlying24 rfl (by kernel_rfl) ?_)
                  | ((with_reducible refine @id (wpList _ _ _ (Oper.mk _ (Op.binOp _ _ _ _ _) _ _ _ _ :: _) _ _) ?_); refine wpList_eql_nm (by kernel_rfl) (.tmp 108) (.tmp 109) _ rfl n0 n1 n2 n3 n4 n5 n6 m0 m1 m2 m3 m4 m5 m6 n7 m7 rfl rfl true HSame.out ?_)
                  | ((with_reducible refine @id (wpList _ _ _ (Oper.mk _ (Op.load 2 (.tmp 114)) _ _ _ _ :: _) _ _) ?_); refine wpList_load_one (by kernel_rfl) 2 (.tmp 114) rfl (S5) 8 rfl 27 #[.int .i64 n0, .int .i64 n1, .int .i64 n2, .int .i64 n3, .int .i64 n4, .int .i64 n5, .int .i64 n6, .bool n7, .int .i64 ad, .int .i64 st, .int .i64 lf, .slice b l.length c] (0, 0) (J5.out wr hb) (.int .i64 ad) rfl _ Try.underlying2 rfl (by kernel_rfl) ?_)
                  | ((with_reducible refine @id (wpList _ _ _ (Oper.mk _ (Op.load 2 (.tmp 119)) _ _ _ _ :: _) _ _) ?_); refine wpList_load_one (by kernel_rfl) 2 (.tmp 119) rfl (S5) 9 rfl 27 #[.int .i64 n0, .int .i64 n1, .int .i64 n2, .int .i64 n3, .int .i64 n4, .int .i64 n5, .int .i64 n6, .bool n7, .int .i64 ad, .int .i64 st, .int .i64 lf, .slice b l.length c] (0, 0) (J5.out wr hb) (.int .i64 st) rfl _ Try.underlying2 rfl (by kernel_rfl) ?_)
                  | ((with_reducible refine @id (wpList _ _ _ (Oper.mk _ (Op.load 2 (.tmp 123)) _ _ _ _ :: _) _ _) ?_); refine wpList_load_one (by kernel_rfl) 2 (.tmp 123) rfl (S8) 13 rfl 31 #[.int .i64 d0, .int .i64 d1, .int .i64 d2, .int .i64 d3, .int .i64 d4, .int .i64 d5, .int .i64 d6, .bool d7, .int .i64 dad, .int .i64 dst, .int .i64 dlf, .slice xa dl.length xc, .bool dS, .int .i64 0] (0, 0) (J8.out wr hb) (.int .i64 0) rfl _ Try.underlying2 rfl (by kernel_rfl) ?_)
                  | ((with_reducible refine @id (wpList _ _ _ (Oper.mk _ (Op.load 2 (.tmp 128)) _ _ _ _ :: _) _ _) ?_); refine wpList_load_one (by kernel_rfl) 2 (.tmp 128) rfl (S8) 8 rfl 31 #[.int .i64 d0, .int .i64 d1, .int .i64 d2, .int .i64 d3, .int .i64 d4, .int .i64 d5, .int .i64 d6, .bool d7, .int .i64 dad, .int .i64 dst, .int .i64 dlf, .slice xa dl.length xc, .bool dS, .int .i64 0] (0, 0) (J8.out wr hb) (.int .i64 dad) rfl _ Try.underlying2 rfl (by kernel_rfl) ?_)
                  | ((with_reducible refine @id (wpList _ _ _ (Oper.mk _ (Op.load 2 (.tmp 130)) _ _ _ _ :: _) _ _) ?_); refine wpList_load_one (by kernel_rfl) 2 (.tmp 130) rfl (S5) 8 rfl 27 #[.int .i64 n0, .int .i64 n1, .int .i64 n2, .int .i64 n3, .int .i64 n4, .int .i64 n5, .int .i64 n6, .bool n7, .int .i64 ad, .int .i64 st, .int .i64 lf, .slice b l.length c] (0, 0) (J5.out wr hb) (.int .i64 ad) rfl _ Try.underlying2 rfl (by kernel_rfl) ?_))
                go_ret
                exact ⟨rfl, HB.out.trans (hb.mono HB.out.size)⟩
            · have eC : (dC != 0) = true := by simpa using hdC
              go_wp2_with (first
                | ((with_reducible refine @id (wpList _ _ _ (Oper.mk _ (Op.load 2 (.tmp 86)) _ _ _ _ :: _) _ _) ?_); refine wpList_load_one (by kernel_rfl) 2 (.tmp 86) rfl (S11) 10 rfl 27 #[.int .i64 q0, .int .i64 q1, .int .i64 q2, .int .i64 q3, .int .i64 q4, .int .i64 q5, .int .i64 q6, .bool q7, .int .i64 qad, .int .i64 qst, .int .i64 qlf, .slice qb ql.length qc] (0, 0) (J11.out wr hb) (.int .i64 qlf) rfl _ Try.underlying2 rfl (by kernel_rfl) ?_)
                | ((with_reducible refine @id (wpList _ _ _ (Oper.mk _ (Op.load 2 (.tmp 94)) _ _ _ _ :: _) _ _) ?_); refine wpList_load_one (by kernel_rfl) 2 (.tmp 94) rfl (S11) 9 rfl 27 #[.int .i64 q0, .int .i64 q1, .int .i64 q2, .int .i64 q3, .int .i64 q4, .int .i64 q5, .int .i64 q6, .bool q7, .int .i64 qad, .int .i64 qst, .int .i64 qlf, .slice qb ql.length qc] (0, 0) (J11.out wr hb) (.int .i64 qst) rfl _ Try.underlying2 rfl (by kernel_rfl) ?_)
                | ((with_reducible refine @id (wpList _ _ _ (Oper.mk _ (Op.load 2 (.tmp 99)) _ _ _ _ :: _) _ _) ?_); refine wpList_load_one (by kernel_rfl) 2 (.tmp 99) rfl (R13) 9 rfl 31 #[.int .i64 q0, .int .i64 q1, .int .i64 q2, .int .i64 q3, .int .i64 q4, .int .i64 q5, .int .i64 q6, .bool q7, .int .i64 qad, .int .i64 2, .int .i64 ylf, .slice ya ql.length yc, .bool ys, .int .i64 yC] (0, 0) HGk.out (.int .i64 2) rfl _ Try.underlying2 rfl (by kernel_rfl) ?_)
                | ((with_reducible refine @id (wpList _ _ _ (Oper.mk _ (Op.load 2 (.tmp 103)) _ _ _ _ :: _) _ _) ?_); refine wpList_load_one (by kernel_rfl) 2 (.tmp 103) rfl (S8) 13 rfl 31 #[.int .i64 d0, .int .i64 d1, .int .i64 d2, .int .i64 d3, .int .i64 d4, .int .i64 d5, .int .i64 d6, .bool d7, .int .i64 dad, .int .i64 dst, .int .i64 dlf, .slice xa dl.length xc, .bool dS, .int .i64 dC] (0, 0) (J8.out wr hb) (.int .i64 dC) rfl _ Try.underlying2 rfl (by kernel_rfl) ?_)
                | ((with_reducible refine @id (wpList _ _ _ (Oper.mk _ (Op.load 2 (.tmp 123)) _ _ _ _ :: _) _ _) ?_); refine wpList_load_one (by kernel_rfl) 2 (.tmp 123) rfl (S8) 13 rfl 31 #[.int .i64 d0, .int .i64 d1, .int .i64 d2, .int .i64 d3, .int .i64 d4, .int .i64 d5, .int .i64 d6, .bool d7, .int .i64 dad, .int .i64 dst, .int .i64 dlf, .slice xa dl.length xc, .bool dS, .int .i64 dC] (0, 0) (J8.out wr hb) (.int .i64 dC) rfl _ Try.underlying2 rfl (by kernel_rfl) ?_))
              go_ret
              exact ⟨rfl, HB.out.trans (hb.mono HB.out.size)⟩

set_option maxRecDepth 100000 in
theorem lifted (os : Os) (started : os.Started) (H : Type) (enc : TypeId × Value → H) :
    ReturnsInHanded {} Try.checked os 3 .any (Rows.fnClaimSpec.pre6 enc Try.prog Try.f3 Rows.fnClaimRow.domain false) (Rows.fnClaimSpec.post enc Try.prog Try.f3 false true false false) := by
  refine returnsInHanded_of_change (C := Try.checked) own started (by kernel_rfl) Try.func3
    (ChangeSpec.witness6 (enc := enc) (C := Try.checked) false ⟨#[], #[.slice none 0 0, .slice none 0 0], []⟩ 8 (by kernel_rfl) (by kernel_rfl) (by kernel_rfl) (by kernel_rfl)) ?_
  intro W base args ds gs before hval0 hW hcnd _
  have hval : ∀ (j : Nat) t v, Try.f3.params[j]? = some t → args[j]? = some v → Value.okWide Try.prog W .any base t v := hval0
  have hW' := hW
  obtain ⟨p, q, hA0, hV, rfl, hfz, hnd⟩ := hW
  have hA : DataW.TrodAll enc Try.prog W 0 (fun _ => true) true Try.f3.params.toList args.toList ds p := hA0
  rw [Try.params3] at hA hval
  obtain ⟨v0, vs0, d0, ds0, p0, q0, hargs, rfl, rfl, h0, r0⟩ := trodAll_cons hA
  obtain ⟨v1, vs1, d1, ds1, p1, q1, rfl, rfl, rfl, h1, r1⟩ := trodAll_cons r0
  obtain ⟨rfl, rfl, rfl⟩ := trodAll_nil r1
  obtain rfl : args = #[v0, v1] := by cases args; simp_all
  obtain ⟨rfl, rfl⟩ := trodVars_none hV
  obtain ⟨a0, len0, cap0, rfl⟩ := okWide_slice Try.underlying22 (hval 0 22 v0 rfl rfl)
  have k0 := h0
  have lt0 : ∀ x ∈ p0, x.block < W.heap.size := by obtain ⟨m, hm⟩ := k0; exact DataW.trod_lt m _ _ _ hm
  obtain ⟨z0, w0⟩ : ∃ zs, IsRow .u8 W a0 len0 cap0 zs := by
    obtain ⟨fuel, hf⟩ := h0
    rcases open_ints Try.underlying22 Try.underlying5 (by kernel_rfl) hf with ⟨hcs, _⟩ | ⟨x, l, c, zs, hcs, _, hl, hm, hz, _, hcell, hwz⟩
    · simp [Value.cells] at hcs
      obtain ⟨rfl, rfl, rfl⟩ := hcs
      exact ⟨[], .inl ⟨rfl, rfl, rfl, rfl⟩⟩
    · simp [Value.cells] at hcs
      obtain ⟨rfl, rfl, rfl⟩ := hcs
      exact ⟨zs, .inr ⟨_, rfl, hl, hm, by simpa using hz, hcell, hwz⟩⟩
  obtain ⟨a1, len1, cap1, rfl⟩ := okWide_slice Try.underlying22 (hval 1 22 v1 rfl rfl)
  have k1 := h1
  have lt1 : ∀ x ∈ p1, x.block < W.heap.size := by obtain ⟨m, hm⟩ := k1; exact DataW.trod_lt m _ _ _ hm
  obtain ⟨z1, w1⟩ : ∃ zs, IsRow .u8 W a1 len1 cap1 zs := by
    obtain ⟨fuel, hf⟩ := h1
    rcases open_ints Try.underlying22 Try.underlying5 (by kernel_rfl) hf with ⟨hcs, _⟩ | ⟨x, l, c, zs, hcs, _, hl, hm, hz, _, hcell, hwz⟩
    · simp [Value.cells] at hcs
      obtain ⟨rfl, rfl, rfl⟩ := hcs
      exact ⟨[], .inl ⟨rfl, rfl, rfl, rfl⟩⟩
    · simp [Value.cells] at hcs
      obtain ⟨rfl, rfl, rfl⟩ := hcs
      exact ⟨zs, .inr ⟨_, rfl, hl, hm, by simpa using hz, hcell, hwz⟩⟩
  clear hA0 hval0
  refine (walk a0 len0 cap0 z0 a1 len1 cap1 z1 W w0 w1).mono fun e W' ⟨he, bel⟩ => ?_
  subst he
  exact ⟨_, rfl, _, _, _, [], _, [], hW', trodAll_mk1 (shut_bool Try.underlying4 _), (trodAll_cons_mk (Below.trod laidOut (by kernel_rfl) (of_decide_eq_true (by kernel_rfl)) k0 bel lt0) (trodAll_cons_mk (Below.trod laidOut (by kernel_rfl) (of_decide_eq_true (by kernel_rfl)) k1 bel lt1) trodAll_mk0)), rfl, bel.frame _, fun h => by cases h⟩

theorem over : Rows.fnClaimRow.holds Try.pinned (OpenSpec.ofChange Rows.fnClaimSpec) :=
  OpenClaim.holds_of_wide 3 Try.f3 rfl rfl rfl rfl rfl rfl rfl ⟨rfl, rfl, rfl, rfl, rfl⟩ rfl rfl rfl rfl rfl (by kernel_rfl) Try.func3 (by kernel_rfl)
    (of_decide_eq_true (by kernel_rfl)) (by unfold Func.isWrapper; first | (rw [if_pos (by decide +kernel)]; kernel_rfl) | (rw [if_neg (by decide +kernel)]; exact ⟨rfl, rfl⟩))
    (fun os started H enc _ => lifted os started H enc)

/-- ████ THE STATEMENT ████ -/
theorem proved : Rows.FnClaimSaid := over
#print axioms proved
end Go.Proofs.Ytdhmcepnmbchkaa.fnClaim
