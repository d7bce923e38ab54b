/- Of a drawn group, drawn Values of it and a drawn text: the program answers as the model does, what a text tells is right, and what right Values are written as tells just these Values and has its group's size. For every two lists of bytes from which the inputs are drawn. -/
import Derived.Test.YtanijfmfjabmfaaRows
import Derived.Test.YtanijfmfjabmfaaTabAll
import Derived.Test.YtanijfmfjabmfaaTabBase
import Derived.WalkKit
import Derived.ProofKit
import Derived.OpenShut
import Derived.ShutString
import Derived.ChangeOld
import Derived.Below
namespace Go.Proofs.Ytanijfmfjabmfaa.fnTable
open Go.ChangeShapes Go.WideShapes Go.ChangeAt Go.RowKit
open Go.ChangeMaps (open_string shut_string)
set_option linter.unusedVariables false

theorem own : ownKnob Try.prog.godebug = none := by kernel_rfl
theorem laidOut : laidOutB Try.prog = true := by kernel_rfl

/-- WHAT THE WALK IS TOLD OF A SLICE OF INTEGERS THAT CAME IN: it is nil; or it leads to a row of 'cap' cells, the numbers 'zs' (the first 'len' are its elements, the rest its spare room), each fitting its kind. -/
def IsRow (k : IntKind) (w : World) (a : Option Addr) (len cap : Nat) (zs : List Int) : Prop :=
  (a = none ∧ len = 0 ∧ cap = 0 ∧ zs = []) ∨
  ∃ x, a = some x ∧ len ≤ cap ∧ cap ≤ maxLen ∧ zs.length = cap ∧ (∀ i, i < zs.length → w.cell? (x.add i) = some (.int k (zs.getD i 0))) ∧ ∀ n ∈ zs, (Lit.int k n).wf = true

set_option maxRecDepth 100000 in
set_option maxHeartbeats 100000000 in
theorem walk (a0 : Option Addr) (len0 cap0 : Nat) (z0 : List Int) (a1 : Option Addr) (len1 cap1 : Nat) (z1 : List Int) (w : World) (w0 : IsRow .u8 w a0 len0 cap0 z0) (w1 : IsRow .u8 w a1 len1 cap1 z1) :
    Calls Try.prog 5 #[.slice a0 len0 cap0, .slice a1 len1 cap1] w fun e w' => e = .returned (.bool true) ∧ Below w.heap.size w w' := by
  obtain ⟨r0, b0⟩ := rowIn_mk w0
  obtain ⟨r1, b1⟩ := rowIn_mk w1
  clear w0 w1
  by_cases hbig : 1048576 < len0
  · have hd : decide (1048576 < (len0 : Int)) = true := by simp; omega
    go_enter Try.func5, Try.ntmps5
    go_wp2_with fail
    go_ret
    exact ⟨rfl, Below.refl _ _⟩
  have hd0 : decide (1048576 < (len0 : Int)) = false := by simp; omega
  by_cases hbig1 : 1048576 < len1
  · have hd : decide (1048576 < (len1 : Int)) = true := by simp; omega
    go_enter Try.func5, Try.ntmps5
    go_wp2_with fail
    go_ret
    exact ⟨rfl, Below.refl _ _⟩
  have hd1 : decide (1048576 < (len1 : Int)) = false := by simp; omega
  have R0 := Lib.hid r0
  have B0 := Lib.hid b0
  have R1 := Lib.hid r1
  have B1 := Lib.hid b1
  have l0 : len0 ≤ 1048576 := by omega
  have l1 : len1 ≤ 1048576 := by omega
  clear r0 b0 r1 b1 hbig hbig1
  have KP0 : ∀ U, Below w.heap.size w U → Hid (RowIn U a0 len0 z0 ∧ (0 < len0 → ∀ b o, a0 = some ⟨b, o, none⟩ → b < U.heap.size)) := fun U h => Lib.hid ⟨R0.out.kept h B0.out, fun q b o e => Nat.lt_of_lt_of_le (B0.out q b o e) h.size⟩
  have KP1 : ∀ U, Below w.heap.size w U → Hid (RowIn U a1 len1 z1 ∧ (0 < len1 → ∀ b o, a1 = some ⟨b, o, none⟩ → b < U.heap.size)) := fun U h => Lib.hid ⟨R1.out.kept h B1.out, fun q b o e => Nat.lt_of_lt_of_le (B1.out q b o e) h.size⟩
  have T0 := Lib.hid (Below.refl w.heap.size w)
  have K0 := KP0 w T0.out
  go_enter Try.func5, Try.ntmps5
  go_wp2_with fail
  refine (drawEncode_any K0.out.1 l0 K0.out.2).mono ?_
  rintro e w1 ⟨p, b, c, l, p0, p1, hl6, rfl, hn, h⟩
  obtain ⟨L1, e1⟩ : ∃ x, w.heap.size = x := ⟨_, rfl⟩
  obtain ⟨H1, f1⟩ : ∃ x, w1.heap.size = x := ⟨_, rfl⟩
  have qH1_L1 : L1 ≤ H1 := (by rw [← e1, ← f1]; exact h.size)
  have HL1 := Lib.hid (show Lg w w1 [] [(L1, H1, fun W => RsNew vlL 2 142 L1 H1 W b l)] from (Lg.first w).made e1 f1 h (by rw [← e1, ← f1]; exact hn.solid))
  clear h hn e1 f1
  have hl7 : l.length ≤ maxLen := by unfold maxLen; omega
  have HIE := fun W h => Lib.hid (implEncode_any p b c l W h hl7)
  have HSE := fun W h => Lib.hid (specEncode_any p b c l W h hl7)
  have HIV := fun W h => Lib.hid (implValuesRight_any p b c l W h hl7)
  have HSV := fun W h => Lib.hid (specValuesRight_any p b c l W h hl7)
  have HT1 := Lib.hid (enc_all p l)
  have HT0 : Hid (vrB p l = false → ByteArray.mk (encL p l).toArray = ByteArray.mk #[]) := Lib.hid (fun h => by unfold encL encF; rw [h]; rfl)
  have hTs : (ByteArray.mk (encL p l).toArray).size ≤ maxLen := by rw [size_mk]; have := encL_len p l; unfold maxLen; omega
  have hTe : 0 < (encL p l).length → ByteArray.mk (encL p l).toArray ≠ ByteArray.mk #[] := fun h e => by
    have := congrArg ByteArray.size e
    rw [size_mk] at this
    have h2 : (ByteArray.mk #[]).size = 0 := rfl
    omega
  have HTe := Lib.hid hTe
  generalize ByteArray.mk (encL p l).toArray = T at *
  generalize vrB p l = vr at *
  clear hTe hl7
  go_wp2_with fail
  refine ((HIE _ (HL1.out.at (.head _)).ins).out).mono ?_
  rintro e w2 ⟨rfl, h⟩
  have HL2 := Lib.hid (show Lg w w2 [] [(L1, H1, fun W => RsNew vlL 2 142 L1 H1 W b l)] from HL1.out.kept h)
  clear h
  go_wp2_with fail
  refine (drawDecode_any (KP1 _ HL2.out.below).out.1 l1 (KP1 _ HL2.out.below).out.2).mono ?_
  rintro e w3 ⟨q, s, q0, q1, hs15, rfl, h⟩
  have HL3 := Lib.hid (show Lg w w3 [] [(L1, H1, fun W => RsNew vlL 2 142 L1 H1 W b l)] from HL2.out.kept h)
  clear h
  have hs7 : s.size ≤ maxLen := by unfold maxLen; omega
  have HID := fun W => Lib.hid (implDecode_any q s W hs7)
  have HSD := fun W => Lib.hid (specDecode_any q s W hs7)
  unfold DecOut at HID HSD
  have HIF := fun W => Lib.hid (implDefOf_any q W)
  have HSF := fun W => Lib.hid (specDefOf_any q W)
  unfold DefOut at HIF HSF
  have HDR := Lib.hid (dec_right q s)
  have hL5 : (decV (decide (ixD q < 6)) (defD q).s (defD q).fs s).length ≤ 5 := by
    unfold decV
    split
    · rw [decF_len]; exact defD_len q
    · simp
  have hF5 := defD_len q
  generalize decV (decide (ixD q < 6)) (defD q).s (defD q).fs s = L at *
  generalize decC (decide (ixD q < 6)) (defD q).s s = C at *
  generalize defD q = d at *
  obtain ⟨P, S, R, F⟩ := d
  dsimp only at *
  clear hs7
  have hpl : pgnL.length ≤ 1048576 := by decide
  have eC : (C != C) = false := by simp
  have eP : (P != P) = false := by simp
  have eS : (S != S) = false := by simp
  have eR : (R != R) = false := by simp
  have eF : ((F.length : Int) != (F.length : Int)) = false := by simp
  have eV : (vr != vr) = false := by simp
  go_wp2_with fail
  refine ((HID _).out).mono ?_
  rintro e w4 ⟨xa, xc, rfl, hn, h⟩
  obtain ⟨L4, e4⟩ : ∃ x, w3.heap.size = x := ⟨_, rfl⟩
  obtain ⟨H4, f4⟩ : ∃ x, w4.heap.size = x := ⟨_, rfl⟩
  have qL4_H1 : H1 ≤ L4 := Nat.le_trans (HL3.out.hi (.head _)).2 (Nat.le_of_eq e4)
  have qH4_L4 : L4 ≤ H4 := (by rw [← e4, ← f4]; exact h.size)
  have HL4 := Lib.hid (show Lg w w4 [] [(L4, H4, fun W => RsNew vlL 2 142 L4 H4 W xa L), (L1, H1, fun W => RsNew vlL 2 142 L1 H1 W b l)] from HL3.out.made e4 f4 h (by rw [← e4, ← f4]; exact hn.solid))
  clear h hn e4 f4
  go_wp2_with fail
  refine ((HSD _).out).mono ?_
  rintro e w5 ⟨ya, yc, rfl, hn, h⟩
  obtain ⟨L5, e5⟩ : ∃ x, w4.heap.size = x := ⟨_, rfl⟩
  obtain ⟨H5, f5⟩ : ∃ x, w5.heap.size = x := ⟨_, rfl⟩
  have qL5_H4 : H4 ≤ L5 := Nat.le_trans (HL4.out.hi (.head _)).2 (Nat.le_of_eq e5)
  have qL5_H1 : H1 ≤ L5 := Nat.le_trans (HL4.out.hi (.tail _ (.head _))).2 (Nat.le_of_eq e5)
  have qH5_L5 : L5 ≤ H5 := (by rw [← e5, ← f5]; exact h.size)
  have HL5 := Lib.hid (show Lg w w5 [] [(L5, H5, fun W => RsNew vlL 2 142 L5 H5 W ya L), (L4, H4, fun W => RsNew vlL 2 142 L4 H4 W xa L), (L1, H1, fun W => RsNew vlL 2 142 L1 H1 W b l)] from HL4.out.made e5 f5 h (by rw [← e5, ← f5]; exact hn.solid))
  clear h hn e5 f5
  go_wp2_with (first
    | (refine wpList_alloc_h rfl 66 rfl (.agg #[.slice none 0 0, .int .i64 0]) (by kernel_rfl) #[.slice none 0 0, .int .i64 0] rfl ?_; intro w6 R6 e6 g6 b6; have qR6_H5 : H5 ≤ R6 := Nat.le_trans (HL5.out.hi (.head _)).2 (Nat.le_of_eq e6); have qR6_H4 : H4 ≤ R6 := Nat.le_trans (HL5.out.hi (.tail _ (.head _))).2 (Nat.le_of_eq e6); have qR6_H1 : H1 ≤ R6 := Nat.le_trans (HL5.out.hi (.tail _ (.tail _ (.head _)))).2 (Nat.le_of_eq e6); have HL6 := Lib.hid (show Lg w w6 [(R6, #[.slice none 0 0, .int .i64 0], 66)] [(L5, H5, fun W => RsNew vlL 2 142 L5 H5 W ya L), (L4, H4, fun W => RsNew vlL 2 142 L4 H4 W xa L), (L1, H1, fun W => RsNew vlL 2 142 L1 H1 W b l)] from HL5.out.box e6 g6 b6); clear g6 b6 e6)
    | (refine wpList_alloc_h rfl 66 rfl (.agg #[.slice none 0 0, .int .i64 0]) (by kernel_rfl) #[.slice none 0 0, .int .i64 0] rfl ?_; intro w7 R7 e7 g7 b7; have qR7_R6 : R6 < R7 := Nat.lt_of_lt_of_eq (HL6.out.lt (.head _)) e7; have qR7_H5 : H5 ≤ R7 := Nat.le_trans (HL6.out.hi (.head _)).2 (Nat.le_of_eq e7); have qR7_H4 : H4 ≤ R7 := Nat.le_trans (HL6.out.hi (.tail _ (.head _))).2 (Nat.le_of_eq e7); have qR7_H1 : H1 ≤ R7 := Nat.le_trans (HL6.out.hi (.tail _ (.tail _ (.head _)))).2 (Nat.le_of_eq e7); have HL7 := Lib.hid (show Lg w w7 [(R7, #[.slice none 0 0, .int .i64 0], 66), (R6, #[.slice none 0 0, .int .i64 0], 66)] [(L5, H5, fun W => RsNew vlL 2 142 L5 H5 W ya L), (L4, H4, fun W => RsNew vlL 2 142 L4 H4 W xa L), (L1, H1, fun W => RsNew vlL 2 142 L1 H1 W b l)] from HL6.out.box e7 g7 b7); clear g7 b7 e7)
    | (refine wpList_put_at rfl 66 (.tmp 10) (.tmp 38) rfl rfl (R6) 0 rfl (.agg #[.slice xa L.length xc, .int .i64 C]) rfl #[.slice xa L.length xc, .int .i64 C] rfl 66 #[.slice none 0 0, .int .i64 0] #[.slice xa L.length xc, .int .i64 C] (HL7.out.get (.tail _ (.head _))) (by kernel_rfl) (by kernel_rfl) (by kernel_rfl) (by kernel_rfl) ?_; intro w8 g8 o8; have HL8 := Lib.hid (show Lg w w8 [(R7, #[.slice none 0 0, .int .i64 0], 66), (R6, #[.slice xa L.length xc, .int .i64 C], 66)] [(L5, H5, fun W => RsNew vlL 2 142 L5 H5 W ya L), (L4, H4, fun W => RsNew vlL 2 142 L4 H4 W xa L), (L1, H1, fun W => RsNew vlL 2 142 L1 H1 W b l)] from HL7.out.put 1 rfl g8 o8 (List.forall_mem_cons.2 ⟨Nat.ne_of_gt qR7_R6, (fun _ h => nomatch h)⟩) (List.forall_mem_cons.2 ⟨.inl qR6_H5, (List.forall_mem_cons.2 ⟨.inl qR6_H4, (List.forall_mem_cons.2 ⟨.inl qR6_H1, (fun _ h => nomatch h)⟩)⟩)⟩) rfl); clear g8 o8)
    | (refine wpList_put_at rfl 66 (.tmp 11) (.tmp 41) rfl rfl (R7) 0 rfl (.agg #[.slice ya L.length yc, .int .i64 C]) rfl #[.slice ya L.length yc, .int .i64 C] rfl 66 #[.slice none 0 0, .int .i64 0] #[.slice ya L.length yc, .int .i64 C] (HL8.out.get (.head _)) (by kernel_rfl) (by kernel_rfl) (by kernel_rfl) (by kernel_rfl) ?_; intro w9 g9 o9; have HL9 := Lib.hid (show Lg w w9 [(R7, #[.slice ya L.length yc, .int .i64 C], 66), (R6, #[.slice xa L.length xc, .int .i64 C], 66)] [(L5, H5, fun W => RsNew vlL 2 142 L5 H5 W ya L), (L4, H4, fun W => RsNew vlL 2 142 L4 H4 W xa L), (L1, H1, fun W => RsNew vlL 2 142 L1 H1 W b l)] from HL8.out.put 0 rfl g9 o9 (List.forall_mem_cons.2 ⟨Nat.ne_of_lt qR7_R6, (fun _ h => nomatch h)⟩) (List.forall_mem_cons.2 ⟨.inl qR7_H5, (List.forall_mem_cons.2 ⟨.inl qR7_H4, (List.forall_mem_cons.2 ⟨.inl qR7_H1, (fun _ h => nomatch h)⟩)⟩)⟩) rfl); clear g9 o9))
  refine ((HIF _).out).mono ?_
  rintro e w10 ⟨da, rfl, hn, h⟩
  obtain ⟨L10, e10⟩ : ∃ x, w9.heap.size = x := ⟨_, rfl⟩
  obtain ⟨H10, f10⟩ : ∃ x, w10.heap.size = x := ⟨_, rfl⟩
  have qL10_R7 : R7 < L10 := Nat.lt_of_lt_of_eq (HL9.out.lt (.head _)) e10
  have qL10_R6 : R6 < L10 := Nat.lt_of_lt_of_eq (HL9.out.lt (.tail _ (.head _))) e10
  have qL10_H5 : H5 ≤ L10 := Nat.le_trans (HL9.out.hi (.head _)).2 (Nat.le_of_eq e10)
  have qL10_H4 : H4 ≤ L10 := Nat.le_trans (HL9.out.hi (.tail _ (.head _))).2 (Nat.le_of_eq e10)
  have qL10_H1 : H1 ≤ L10 := Nat.le_trans (HL9.out.hi (.tail _ (.tail _ (.head _)))).2 (Nat.le_of_eq e10)
  have qH10_L10 : L10 ≤ H10 := (by rw [← e10, ← f10]; exact h.size)
  have HL10 := Lib.hid (show Lg w w10 [(R7, #[.slice ya L.length yc, .int .i64 C], 66), (R6, #[.slice xa L.length xc, .int .i64 C], 66)] [(L10, H10, fun W => RsNew fdL 3 77 L10 H10 W da F), (L5, H5, fun W => RsNew vlL 2 142 L5 H5 W ya L), (L4, H4, fun W => RsNew vlL 2 142 L4 H4 W xa L), (L1, H1, fun W => RsNew vlL 2 142 L1 H1 W b l)] from HL9.out.made e10 f10 h (by rw [← e10, ← f10]; exact hn.solid))
  clear h hn e10 f10
  go_wp2_with fail
  refine ((HSF _).out).mono ?_
  rintro e w11 ⟨ea, rfl, hn, h⟩
  obtain ⟨L11, e11⟩ : ∃ x, w10.heap.size = x := ⟨_, rfl⟩
  obtain ⟨H11, f11⟩ : ∃ x, w11.heap.size = x := ⟨_, rfl⟩
  have qL11_R7 : R7 < L11 := Nat.lt_of_lt_of_eq (HL10.out.lt (.head _)) e11
  have qL11_R6 : R6 < L11 := Nat.lt_of_lt_of_eq (HL10.out.lt (.tail _ (.head _))) e11
  have qL11_H10 : H10 ≤ L11 := Nat.le_trans (HL10.out.hi (.head _)).2 (Nat.le_of_eq e11)
  have qL11_H5 : H5 ≤ L11 := Nat.le_trans (HL10.out.hi (.tail _ (.head _))).2 (Nat.le_of_eq e11)
  have qL11_H4 : H4 ≤ L11 := Nat.le_trans (HL10.out.hi (.tail _ (.tail _ (.head _)))).2 (Nat.le_of_eq e11)
  have qL11_H1 : H1 ≤ L11 := Nat.le_trans (HL10.out.hi (.tail _ (.tail _ (.tail _ (.head _))))).2 (Nat.le_of_eq e11)
  have qH11_L11 : L11 ≤ H11 := (by rw [← e11, ← f11]; exact h.size)
  have HL11 := Lib.hid (show Lg w w11 [(R7, #[.slice ya L.length yc, .int .i64 C], 66), (R6, #[.slice xa L.length xc, .int .i64 C], 66)] [(L11, H11, fun W => RsNew fdL 3 77 L11 H11 W ea F), (L10, H10, fun W => RsNew fdL 3 77 L10 H10 W da F), (L5, H5, fun W => RsNew vlL 2 142 L5 H5 W ya L), (L4, H4, fun W => RsNew vlL 2 142 L4 H4 W xa L), (L1, H1, fun W => RsNew vlL 2 142 L1 H1 W b l)] from HL10.out.made e11 f11 h (by rw [← e11, ← f11]; exact hn.solid))
  clear h hn e11 f11
  go_wp2_with (first
    | (refine wpList_alloc_h rfl 70 rfl (.agg #[.int .i64 0, .int .i64 0, .int .i64 0, .slice none 0 0]) (by kernel_rfl) #[.int .i64 0, .int .i64 0, .int .i64 0, .slice none 0 0] rfl ?_; intro w12 R12 e12 g12 b12; have qR12_R7 : R7 < R12 := Nat.lt_of_lt_of_eq (HL11.out.lt (.head _)) e12; have qR12_R6 : R6 < R12 := Nat.lt_of_lt_of_eq (HL11.out.lt (.tail _ (.head _))) e12; have qR12_H11 : H11 ≤ R12 := Nat.le_trans (HL11.out.hi (.head _)).2 (Nat.le_of_eq e12); have qR12_H10 : H10 ≤ R12 := Nat.le_trans (HL11.out.hi (.tail _ (.head _))).2 (Nat.le_of_eq e12); have qR12_H5 : H5 ≤ R12 := Nat.le_trans (HL11.out.hi (.tail _ (.tail _ (.head _)))).2 (Nat.le_of_eq e12); have qR12_H4 : H4 ≤ R12 := Nat.le_trans (HL11.out.hi (.tail _ (.tail _ (.tail _ (.head _))))).2 (Nat.le_of_eq e12); have qR12_H1 : H1 ≤ R12 := Nat.le_trans (HL11.out.hi (.tail _ (.tail _ (.tail _ (.tail _ (.head _)))))).2 (Nat.le_of_eq e12); have HL12 := Lib.hid (show Lg w w12 [(R12, #[.int .i64 0, .int .i64 0, .int .i64 0, .slice none 0 0], 70), (R7, #[.slice ya L.length yc, .int .i64 C], 66), (R6, #[.slice xa L.length xc, .int .i64 C], 66)] [(L11, H11, fun W => RsNew fdL 3 77 L11 H11 W ea F), (L10, H10, fun W => RsNew fdL 3 77 L10 H10 W da F), (L5, H5, fun W => RsNew vlL 2 142 L5 H5 W ya L), (L4, H4, fun W => RsNew vlL 2 142 L4 H4 W xa L), (L1, H1, fun W => RsNew vlL 2 142 L1 H1 W b l)] from HL11.out.box e12 g12 b12); clear g12 b12 e12)
    | (refine wpList_alloc_h rfl 70 rfl (.agg #[.int .i64 0, .int .i64 0, .int .i64 0, .slice none 0 0]) (by kernel_rfl) #[.int .i64 0, .int .i64 0, .int .i64 0, .slice none 0 0] rfl ?_; intro w13 R13 e13 g13 b13; have qR13_R12 : R12 < R13 := Nat.lt_of_lt_of_eq (HL12.out.lt (.head _)) e13; have qR13_R7 : R7 < R13 := Nat.lt_of_lt_of_eq (HL12.out.lt (.tail _ (.head _))) e13; have qR13_R6 : R6 < R13 := Nat.lt_of_lt_of_eq (HL12.out.lt (.tail _ (.tail _ (.head _)))) e13; have qR13_H11 : H11 ≤ R13 := Nat.le_trans (HL12.out.hi (.head _)).2 (Nat.le_of_eq e13); have qR13_H10 : H10 ≤ R13 := Nat.le_trans (HL12.out.hi (.tail _ (.head _))).2 (Nat.le_of_eq e13); have qR13_H5 : H5 ≤ R13 := Nat.le_trans (HL12.out.hi (.tail _ (.tail _ (.head _)))).2 (Nat.le_of_eq e13); have qR13_H4 : H4 ≤ R13 := Nat.le_trans (HL12.out.hi (.tail _ (.tail _ (.tail _ (.head _))))).2 (Nat.le_of_eq e13); have qR13_H1 : H1 ≤ R13 := Nat.le_trans (HL12.out.hi (.tail _ (.tail _ (.tail _ (.tail _ (.head _)))))).2 (Nat.le_of_eq e13); have HL13 := Lib.hid (show Lg w w13 [(R13, #[.int .i64 0, .int .i64 0, .int .i64 0, .slice none 0 0], 70), (R12, #[.int .i64 0, .int .i64 0, .int .i64 0, .slice none 0 0], 70), (R7, #[.slice ya L.length yc, .int .i64 C], 66), (R6, #[.slice xa L.length xc, .int .i64 C], 66)] [(L11, H11, fun W => RsNew fdL 3 77 L11 H11 W ea F), (L10, H10, fun W => RsNew fdL 3 77 L10 H10 W da F), (L5, H5, fun W => RsNew vlL 2 142 L5 H5 W ya L), (L4, H4, fun W => RsNew vlL 2 142 L4 H4 W xa L), (L1, H1, fun W => RsNew vlL 2 142 L1 H1 W b l)] from HL12.out.box e13 g13 b13); clear g13 b13 e13)
    | (refine wpList_put_at rfl 70 (.tmp 12) (.tmp 43) rfl rfl (R12) 0 rfl (.agg #[.int .i64 P, .int .i64 S, .int .i64 R, .slice da F.length F.length]) rfl #[.int .i64 P, .int .i64 S, .int .i64 R, .slice da F.length F.length] rfl 70 #[.int .i64 0, .int .i64 0, .int .i64 0, .slice none 0 0] #[.int .i64 P, .int .i64 S, .int .i64 R, .slice da F.length F.length] (HL13.out.get (.tail _ (.head _))) (by kernel_rfl) (by kernel_rfl) (by kernel_rfl) (by kernel_rfl) ?_; intro w14 g14 o14; have HL14 := Lib.hid (show Lg w w14 [(R13, #[.int .i64 0, .int .i64 0, .int .i64 0, .slice none 0 0], 70), (R12, #[.int .i64 P, .int .i64 S, .int .i64 R, .slice da F.length F.length], 70), (R7, #[.slice ya L.length yc, .int .i64 C], 66), (R6, #[.slice xa L.length xc, .int .i64 C], 66)] [(L11, H11, fun W => RsNew fdL 3 77 L11 H11 W ea F), (L10, H10, fun W => RsNew fdL 3 77 L10 H10 W da F), (L5, H5, fun W => RsNew vlL 2 142 L5 H5 W ya L), (L4, H4, fun W => RsNew vlL 2 142 L4 H4 W xa L), (L1, H1, fun W => RsNew vlL 2 142 L1 H1 W b l)] from HL13.out.put 1 rfl g14 o14 (List.forall_mem_cons.2 ⟨Nat.ne_of_gt qR13_R12, (List.forall_mem_cons.2 ⟨Nat.ne_of_lt qR12_R7, (List.forall_mem_cons.2 ⟨Nat.ne_of_lt qR12_R6, (fun _ h => nomatch h)⟩)⟩)⟩) (List.forall_mem_cons.2 ⟨.inl qR12_H11, (List.forall_mem_cons.2 ⟨.inl qR12_H10, (List.forall_mem_cons.2 ⟨.inl qR12_H5, (List.forall_mem_cons.2 ⟨.inl qR12_H4, (List.forall_mem_cons.2 ⟨.inl qR12_H1, (fun _ h => nomatch h)⟩)⟩)⟩)⟩)⟩) rfl); clear g14 o14)
    | (refine wpList_put_at rfl 70 (.tmp 13) (.tmp 45) rfl rfl (R13) 0 rfl (.agg #[.int .i64 P, .int .i64 S, .int .i64 R, .slice ea F.length F.length]) rfl #[.int .i64 P, .int .i64 S, .int .i64 R, .slice ea F.length F.length] rfl 70 #[.int .i64 0, .int .i64 0, .int .i64 0, .slice none 0 0] #[.int .i64 P, .int .i64 S, .int .i64 R, .slice ea F.length F.length] (HL14.out.get (.head _)) (by kernel_rfl) (by kernel_rfl) (by kernel_rfl) (by kernel_rfl) ?_; intro w15 g15 o15; have HL15 := Lib.hid (show Lg w w15 [(R13, #[.int .i64 P, .int .i64 S, .int .i64 R, .slice ea F.length F.length], 70), (R12, #[.int .i64 P, .int .i64 S, .int .i64 R, .slice da F.length F.length], 70), (R7, #[.slice ya L.length yc, .int .i64 C], 66), (R6, #[.slice xa L.length xc, .int .i64 C], 66)] [(L11, H11, fun W => RsNew fdL 3 77 L11 H11 W ea F), (L10, H10, fun W => RsNew fdL 3 77 L10 H10 W da F), (L5, H5, fun W => RsNew vlL 2 142 L5 H5 W ya L), (L4, H4, fun W => RsNew vlL 2 142 L4 H4 W xa L), (L1, H1, fun W => RsNew vlL 2 142 L1 H1 W b l)] from HL14.out.put 0 rfl g15 o15 (List.forall_mem_cons.2 ⟨Nat.ne_of_lt qR13_R12, (List.forall_mem_cons.2 ⟨Nat.ne_of_lt qR13_R7, (List.forall_mem_cons.2 ⟨Nat.ne_of_lt qR13_R6, (fun _ h => nomatch h)⟩)⟩)⟩) (List.forall_mem_cons.2 ⟨.inl qR13_H11, (List.forall_mem_cons.2 ⟨.inl qR13_H10, (List.forall_mem_cons.2 ⟨.inl qR13_H5, (List.forall_mem_cons.2 ⟨.inl qR13_H4, (List.forall_mem_cons.2 ⟨.inl qR13_H1, (fun _ h => nomatch h)⟩)⟩)⟩)⟩)⟩) rfl); clear g15 o15))
  refine ((HSE _ (HL15.out.at (.tail _ (.tail _ (.tail _ (.tail _ (.head _)))))).ins).out).mono ?_
  rintro e w16 ⟨rfl, h⟩
  have HL16 := Lib.hid (show Lg w w16 [(R13, #[.int .i64 P, .int .i64 S, .int .i64 R, .slice ea F.length F.length], 70), (R12, #[.int .i64 P, .int .i64 S, .int .i64 R, .slice da F.length F.length], 70), (R7, #[.slice ya L.length yc, .int .i64 C], 66), (R6, #[.slice xa L.length xc, .int .i64 C], 66)] [(L11, H11, fun W => RsNew fdL 3 77 L11 H11 W ea F), (L10, H10, fun W => RsNew fdL 3 77 L10 H10 W da F), (L5, H5, fun W => RsNew vlL 2 142 L5 H5 W ya L), (L4, H4, fun W => RsNew vlL 2 142 L4 H4 W xa L), (L1, H1, fun W => RsNew vlL 2 142 L1 H1 W b l)] from HL15.out.kept h)
  clear h
  simp only [List.append] at *
  go_wp2_with (first
    | (refine wpList_load_one (by kernel_rfl) 2 (.tmp 52) rfl (R6) 1 rfl 66 #[.slice xa L.length xc, .int .i64 C] (0, 0) (HL16.out.get (.tail _ (.tail _ (.tail _ (.head _))))) (.int .i64 C) rfl _ Try.underlying2 rfl (by kernel_rfl) ?_)
    | (refine wpList_load_one (by kernel_rfl) 2 (.tmp 54) rfl (R7) 1 rfl 66 #[.slice ya L.length yc, .int .i64 C] (0, 0) (HL16.out.get (.tail _ (.tail _ (.head _)))) (.int .i64 C) rfl _ Try.underlying2 rfl (by kernel_rfl) ?_)
    | (refine wpList_load_one (by kernel_rfl) 61 (.tmp 59) rfl (R6) 0 rfl 66 #[.slice xa L.length xc, .int .i64 C] (0, 0) (HL16.out.get (.tail _ (.tail _ (.tail _ (.head _))))) (.slice xa L.length xc) rfl _ Try.underlying61 rfl (by kernel_rfl) ?_)
    | (refine wpList_load_one (by kernel_rfl) 61 (.tmp 61) rfl (R7) 0 rfl 66 #[.slice ya L.length yc, .int .i64 C] (0, 0) (HL16.out.get (.tail _ (.tail _ (.head _)))) (.slice ya L.length yc) rfl _ Try.underlying61 rfl (by kernel_rfl) ?_))
  refine (lwValues_same xa ya xc yc L _ (HL16.out.at (.tail _ (.tail _ (.tail _ (.head _))))).ins (HL16.out.at (.tail _ (.tail _ (.head _)))).ins (by omega)).mono ?_
  rintro e w17 ⟨rfl, h⟩
  have HL17 := Lib.hid (show Lg w w17 [(R13, #[.int .i64 P, .int .i64 S, .int .i64 R, .slice ea F.length F.length], 70), (R12, #[.int .i64 P, .int .i64 S, .int .i64 R, .slice da F.length F.length], 70), (R7, #[.slice ya L.length yc, .int .i64 C], 66), (R6, #[.slice xa L.length xc, .int .i64 C], 66)] [(L11, H11, fun W => RsNew fdL 3 77 L11 H11 W ea F), (L10, H10, fun W => RsNew fdL 3 77 L10 H10 W da F), (L5, H5, fun W => RsNew vlL 2 142 L5 H5 W ya L), (L4, H4, fun W => RsNew vlL 2 142 L4 H4 W xa L), (L1, H1, fun W => RsNew vlL 2 142 L1 H1 W b l)] from HL16.out.kept h)
  clear h
  go_wp2_with (first
    | (refine wpList_load_one (by kernel_rfl) 2 (.tmp 67) rfl (R12) 0 rfl 70 #[.int .i64 P, .int .i64 S, .int .i64 R, .slice da F.length F.length] (0, 0) (HL17.out.get (.tail _ (.head _))) (.int .i64 P) rfl _ Try.underlying2 rfl (by kernel_rfl) ?_)
    | (refine wpList_load_one (by kernel_rfl) 2 (.tmp 69) rfl (R13) 0 rfl 70 #[.int .i64 P, .int .i64 S, .int .i64 R, .slice ea F.length F.length] (0, 0) (HL17.out.get (.head _)) (.int .i64 P) rfl _ Try.underlying2 rfl (by kernel_rfl) ?_)
    | (refine wpList_load_one (by kernel_rfl) 2 (.tmp 74) rfl (R12) 1 rfl 70 #[.int .i64 P, .int .i64 S, .int .i64 R, .slice da F.length F.length] (0, 0) (HL17.out.get (.tail _ (.head _))) (.int .i64 S) rfl _ Try.underlying2 rfl (by kernel_rfl) ?_)
    | (refine wpList_load_one (by kernel_rfl) 2 (.tmp 76) rfl (R13) 1 rfl 70 #[.int .i64 P, .int .i64 S, .int .i64 R, .slice ea F.length F.length] (0, 0) (HL17.out.get (.head _)) (.int .i64 S) rfl _ Try.underlying2 rfl (by kernel_rfl) ?_)
    | (refine wpList_load_one (by kernel_rfl) 2 (.tmp 81) rfl (R12) 2 rfl 70 #[.int .i64 P, .int .i64 S, .int .i64 R, .slice da F.length F.length] (0, 0) (HL17.out.get (.tail _ (.head _))) (.int .i64 R) rfl _ Try.underlying2 rfl (by kernel_rfl) ?_)
    | (refine wpList_load_one (by kernel_rfl) 2 (.tmp 83) rfl (R13) 2 rfl 70 #[.int .i64 P, .int .i64 S, .int .i64 R, .slice ea F.length F.length] (0, 0) (HL17.out.get (.head _)) (.int .i64 R) rfl _ Try.underlying2 rfl (by kernel_rfl) ?_)
    | (refine wpList_load_one (by kernel_rfl) 68 (.tmp 88) rfl (R12) 3 rfl 70 #[.int .i64 P, .int .i64 S, .int .i64 R, .slice da F.length F.length] (0, 0) (HL17.out.get (.tail _ (.head _))) (.slice da F.length F.length) rfl _ Try.underlying68 rfl (by kernel_rfl) ?_)
    | (refine wpList_load_one (by kernel_rfl) 68 (.tmp 91) rfl (R13) 3 rfl 70 #[.int .i64 P, .int .i64 S, .int .i64 R, .slice ea F.length F.length] (0, 0) (HL17.out.get (.head _)) (.slice ea F.length F.length) rfl _ Try.underlying68 rfl (by kernel_rfl) ?_))
  refine ((HIV _ (HL17.out.at (.tail _ (.tail _ (.tail _ (.tail _ (.head _)))))).ins).out).mono ?_
  rintro e w18 ⟨rfl, h⟩
  have HL18 := Lib.hid (show Lg w w18 [(R13, #[.int .i64 P, .int .i64 S, .int .i64 R, .slice ea F.length F.length], 70), (R12, #[.int .i64 P, .int .i64 S, .int .i64 R, .slice da F.length F.length], 70), (R7, #[.slice ya L.length yc, .int .i64 C], 66), (R6, #[.slice xa L.length xc, .int .i64 C], 66)] [(L11, H11, fun W => RsNew fdL 3 77 L11 H11 W ea F), (L10, H10, fun W => RsNew fdL 3 77 L10 H10 W da F), (L5, H5, fun W => RsNew vlL 2 142 L5 H5 W ya L), (L4, H4, fun W => RsNew vlL 2 142 L4 H4 W xa L), (L1, H1, fun W => RsNew vlL 2 142 L1 H1 W b l)] from HL17.out.kept h)
  clear h
  go_wp2_with fail
  refine ((HSV _ (HL18.out.at (.tail _ (.tail _ (.tail _ (.tail _ (.head _)))))).ins).out).mono ?_
  rintro e w19 ⟨rfl, h⟩
  have HL19 := Lib.hid (show Lg w w19 [(R13, #[.int .i64 P, .int .i64 S, .int .i64 R, .slice ea F.length F.length], 70), (R12, #[.int .i64 P, .int .i64 S, .int .i64 R, .slice da F.length F.length], 70), (R7, #[.slice ya L.length yc, .int .i64 C], 66), (R6, #[.slice xa L.length xc, .int .i64 C], 66)] [(L11, H11, fun W => RsNew fdL 3 77 L11 H11 W ea F), (L10, H10, fun W => RsNew fdL 3 77 L10 H10 W da F), (L5, H5, fun W => RsNew vlL 2 142 L5 H5 W ya L), (L4, H4, fun W => RsNew vlL 2 142 L4 H4 W xa L), (L1, H1, fun W => RsNew vlL 2 142 L1 H1 W b l)] from HL18.out.kept h)
  clear h
  go_wp2_with fail
  refine (implPgns_any _).mono ?_
  rintro e w20 ⟨pa, pc, rfl, hn, h⟩
  obtain ⟨L20, e20⟩ : ∃ x, w19.heap.size = x := ⟨_, rfl⟩
  obtain ⟨H20, f20⟩ : ∃ x, w20.heap.size = x := ⟨_, rfl⟩
  have qL20_R13 : R13 < L20 := Nat.lt_of_lt_of_eq (HL19.out.lt (.head _)) e20
  have qL20_R12 : R12 < L20 := Nat.lt_of_lt_of_eq (HL19.out.lt (.tail _ (.head _))) e20
  have qL20_R7 : R7 < L20 := Nat.lt_of_lt_of_eq (HL19.out.lt (.tail _ (.tail _ (.head _)))) e20
  have qL20_R6 : R6 < L20 := Nat.lt_of_lt_of_eq (HL19.out.lt (.tail _ (.tail _ (.tail _ (.head _))))) e20
  have qL20_H11 : H11 ≤ L20 := Nat.le_trans (HL19.out.hi (.head _)).2 (Nat.le_of_eq e20)
  have qL20_H10 : H10 ≤ L20 := Nat.le_trans (HL19.out.hi (.tail _ (.head _))).2 (Nat.le_of_eq e20)
  have qL20_H5 : H5 ≤ L20 := Nat.le_trans (HL19.out.hi (.tail _ (.tail _ (.head _)))).2 (Nat.le_of_eq e20)
  have qL20_H4 : H4 ≤ L20 := Nat.le_trans (HL19.out.hi (.tail _ (.tail _ (.tail _ (.head _))))).2 (Nat.le_of_eq e20)
  have qL20_H1 : H1 ≤ L20 := Nat.le_trans (HL19.out.hi (.tail _ (.tail _ (.tail _ (.tail _ (.head _)))))).2 (Nat.le_of_eq e20)
  have qH20_L20 : L20 ≤ H20 := (by rw [← e20, ← f20]; exact h.size)
  have HL20 := Lib.hid (show Lg w w20 [(R13, #[.int .i64 P, .int .i64 S, .int .i64 R, .slice ea F.length F.length], 70), (R12, #[.int .i64 P, .int .i64 S, .int .i64 R, .slice da F.length F.length], 70), (R7, #[.slice ya L.length yc, .int .i64 C], 66), (R6, #[.slice xa L.length xc, .int .i64 C], 66)] [(L20, H20, fun W => NumsNew L20 H20 W pa pgnL), (L11, H11, fun W => RsNew fdL 3 77 L11 H11 W ea F), (L10, H10, fun W => RsNew fdL 3 77 L10 H10 W da F), (L5, H5, fun W => RsNew vlL 2 142 L5 H5 W ya L), (L4, H4, fun W => RsNew vlL 2 142 L4 H4 W xa L), (L1, H1, fun W => RsNew vlL 2 142 L1 H1 W b l)] from HL19.out.made e20 f20 h (by rw [← e20, ← f20]; exact hn.solid))
  clear h hn e20 f20
  go_wp2_with fail
  refine (specPgns_any _).mono ?_
  rintro e w21 ⟨pb, pd, rfl, hn, h⟩
  obtain ⟨L21, e21⟩ : ∃ x, w20.heap.size = x := ⟨_, rfl⟩
  obtain ⟨H21, f21⟩ : ∃ x, w21.heap.size = x := ⟨_, rfl⟩
  have qL21_R13 : R13 < L21 := Nat.lt_of_lt_of_eq (HL20.out.lt (.head _)) e21
  have qL21_R12 : R12 < L21 := Nat.lt_of_lt_of_eq (HL20.out.lt (.tail _ (.head _))) e21
  have qL21_R7 : R7 < L21 := Nat.lt_of_lt_of_eq (HL20.out.lt (.tail _ (.tail _ (.head _)))) e21
  have qL21_R6 : R6 < L21 := Nat.lt_of_lt_of_eq (HL20.out.lt (.tail _ (.tail _ (.tail _ (.head _))))) e21
  have qL21_H20 : H20 ≤ L21 := Nat.le_trans (HL20.out.hi (.head _)).2 (Nat.le_of_eq e21)
  have qL21_H11 : H11 ≤ L21 := Nat.le_trans (HL20.out.hi (.tail _ (.head _))).2 (Nat.le_of_eq e21)
  have qL21_H10 : H10 ≤ L21 := Nat.le_trans (HL20.out.hi (.tail _ (.tail _ (.head _)))).2 (Nat.le_of_eq e21)
  have qL21_H5 : H5 ≤ L21 := Nat.le_trans (HL20.out.hi (.tail _ (.tail _ (.tail _ (.head _))))).2 (Nat.le_of_eq e21)
  have qL21_H4 : H4 ≤ L21 := Nat.le_trans (HL20.out.hi (.tail _ (.tail _ (.tail _ (.tail _ (.head _)))))).2 (Nat.le_of_eq e21)
  have qL21_H1 : H1 ≤ L21 := Nat.le_trans (HL20.out.hi (.tail _ (.tail _ (.tail _ (.tail _ (.tail _ (.head _))))))).2 (Nat.le_of_eq e21)
  have qH21_L21 : L21 ≤ H21 := (by rw [← e21, ← f21]; exact h.size)
  have HL21 := Lib.hid (show Lg w w21 [(R13, #[.int .i64 P, .int .i64 S, .int .i64 R, .slice ea F.length F.length], 70), (R12, #[.int .i64 P, .int .i64 S, .int .i64 R, .slice da F.length F.length], 70), (R7, #[.slice ya L.length yc, .int .i64 C], 66), (R6, #[.slice xa L.length xc, .int .i64 C], 66)] [(L21, H21, fun W => NumsNew L21 H21 W pb pgnL), (L20, H20, fun W => NumsNew L20 H20 W pa pgnL), (L11, H11, fun W => RsNew fdL 3 77 L11 H11 W ea F), (L10, H10, fun W => RsNew fdL 3 77 L10 H10 W da F), (L5, H5, fun W => RsNew vlL 2 142 L5 H5 W ya L), (L4, H4, fun W => RsNew vlL 2 142 L4 H4 W xa L), (L1, H1, fun W => RsNew vlL 2 142 L1 H1 W b l)] from HL20.out.made e21 f21 h (by rw [← e21, ← f21]; exact hn.solid))
  clear h hn e21 f21
  go_wp2_with fail
  refine (lwNumsT_same pa pb pc pd pgnL _ (HL21.out.at (.tail _ (.head _))).nums (HL21.out.at (.head _)).nums hpl).mono ?_
  rintro e w22 ⟨rfl, h⟩
  have HL22 := Lib.hid (show Lg w w22 [(R13, #[.int .i64 P, .int .i64 S, .int .i64 R, .slice ea F.length F.length], 70), (R12, #[.int .i64 P, .int .i64 S, .int .i64 R, .slice da F.length F.length], 70), (R7, #[.slice ya L.length yc, .int .i64 C], 66), (R6, #[.slice xa L.length xc, .int .i64 C], 66)] [(L21, H21, fun W => NumsNew L21 H21 W pb pgnL), (L20, H20, fun W => NumsNew L20 H20 W pa pgnL), (L11, H11, fun W => RsNew fdL 3 77 L11 H11 W ea F), (L10, H10, fun W => RsNew fdL 3 77 L10 H10 W da F), (L5, H5, fun W => RsNew vlL 2 142 L5 H5 W ya L), (L4, H4, fun W => RsNew vlL 2 142 L4 H4 W xa L), (L1, H1, fun W => RsNew vlL 2 142 L1 H1 W b l)] from HL21.out.kept h)
  clear h
  go_wp2_with fail
  obtain ⟨U, eU⟩ : ∃ U, w22 = U := ⟨_, rfl⟩
  have HLU := HL22
  rw [eU] at HLU ⊢
  clear HL1 HL2 HL3 HL4 HL5 HL6 HL7 HL8 HL9 HL10 HL11 HL12 HL13 HL14 HL15 HL16 HL17 HL18 HL19 HL20 HL21 eU HIE HSE HIV HID HSD HIF HSF
  have Hd := Lib.hid (HLU.out.at (.tail _ (.tail _ (.tail _ (.head _))))).ins
  have He := Lib.hid (HLU.out.at (.tail _ (.tail _ (.head _)))).ins
  have H12 := Lib.hid (HLU.out.get (.tail _ (.head _)))
  have H13 := Lib.hid (HLU.out.get (.head _))
  obtain ⟨N, hN⟩ : ∃ N, F.length = N := ⟨_, rfl⟩
  have HNl := Lib.hid hN
  rw [hN] at H12 H13 hF5 ⊢
  clear hN
  go_loopw [14] (fun i wr => ∃ k : Nat, i = .int .i64 (k : Int) ∧ k ≤ N ∧ Below U.heap.size U wr) (fun i _ => N - (intOf i).toNat)
  case atStart => exact ⟨0, rfl, by omega, Below.refl _ _⟩
  case round =>
    obtain ⟨k, rfl, hk, hb⟩ := hrel
    have G12 := Lib.hid ((hb.block _ (Array.getElem?_eq_some_iff.1 H12.out).1).trans H12.out)
    have G13 := Lib.hid ((hb.block _ (Array.getElem?_eq_some_iff.1 H13.out).1).trans H13.out)
    by_cases hkn : k < N
    · have hi1 : (0 : Int) ≤ (k : Int) := by omega
      have hi2 : (k : Int) < (N : Int) := by omega
      have hkF : k < F.length := by have := HNl.out; omega
      obtain ⟨b1, o1, rfl, hlt1, hc1⟩ := Hd.out.at (by omega)
      obtain ⟨b2, o2, rfl, hlt2, hc2⟩ := He.out.at (by omega)
      have lB : b1 < wr.heap.size := Nat.lt_of_lt_of_le hlt1 hb.size
      have lB' : b2 < wr.heap.size := Nat.lt_of_lt_of_le hlt2 hb.size
      have HC := Lib.hid (fun j v hv => (hb.cell (p := ⟨b1, _, none⟩) hlt1).trans (hc1 k _ (fdAt_some hkF) j v hv))
      have HC' := Lib.hid (fun j v hv => (hb.cell (p := ⟨b2, _, none⟩) hlt2).trans (hc2 k _ (fdAt_some hkF) j v hv))
      clear hc1 hc2
      generalize fdAt F k = x at *
      obtain ⟨fa, fw, fg⟩ := x
      unfold fdL at HC HC'
      dsimp only at HC HC'
      go_wp2_with (refine wpList_load_one rfl 68 (.tmp 112) rfl (R12) 3 rfl 70 #[.int .i64 P, .int .i64 S, .int .i64 R, .slice (some ⟨b1, o1, none⟩) N N] (0, 0) G12.out (.slice (some ⟨b1, o1, none⟩) N N) rfl _ Try.underlying68 rfl (by kernel_rfl) ?_)
      refine wp_region_quiet (C := fun W => Below wr.heap.size wr W) (by kernel_rfl) (by kernel_rfl) (Below.refl _ _).drew ?_
      dsimp only
      go_big_quiet_want; go_big_quiet_op; first | go_big_quiet_on | (refine ⟨_, fun _ _ => rfl, ?_⟩; go_big_quiet_on)
      go_big_quiet_want; refine ⟨.slice (some ⟨b1, o1, none⟩) N N, fun W hW => (quietLoadOne 68 (.tmp 118) rfl R12 3 rfl _ (rowCells G12.out hW _ _ rfl) _ Try.underlying68 rfl), ?_⟩; simp only [Act.put, List.setIfInBounds_toArray, List.set_cons_zero, List.set_cons_succ]; go_big_quiet_on
      go_big_quiet_want; go_big_quiet_op; first | go_big_quiet_on | (refine ⟨_, fun _ _ => rfl, ?_⟩; go_big_quiet_on)
      go_big_quiet_want; go_big_quiet_op; first | go_big_quiet_on | (refine ⟨_, fun _ _ => rfl, ?_⟩; go_big_quiet_on)
      go_big_quiet_want; refine ⟨.agg #[.int .i64 fa, .int .i64 fw, .bool fg], fun W hW => (quietLoadCells 77 (.tmp 121) rfl b1 (o1 + k * 3) rfl [.int .i64 fa, .int .i64 fw, .bool fg] (grownCells lB HC.out hW) _ Try.underlying77 rfl (by kernel_rfl)), ?_⟩; simp only [Act.put, List.setIfInBounds_toArray, List.set_cons_zero, List.set_cons_succ]; go_big_quiet_on
      go_big_quiet_want; go_big_quiet_op; first | go_big_quiet_on | (refine ⟨_, fun _ _ => rfl, ?_⟩; go_big_quiet_on)
      go_big_quiet_want; refine ⟨.slice (some ⟨b2, o2, none⟩) N N, fun W hW => (quietLoadOne 68 (.tmp 123) rfl R13 3 rfl _ (rowCells G13.out hW _ _ rfl) _ Try.underlying68 rfl), ?_⟩; simp only [Act.put, List.setIfInBounds_toArray, List.set_cons_zero, List.set_cons_succ]; go_big_quiet_on
      go_big_quiet_want; go_big_quiet_op; first | go_big_quiet_on | (refine ⟨_, fun _ _ => rfl, ?_⟩; go_big_quiet_on)
      go_big_quiet_want; go_big_quiet_op; first | go_big_quiet_on | (refine ⟨_, fun _ _ => rfl, ?_⟩; go_big_quiet_on)
      go_big_quiet_want; refine ⟨.agg #[.int .i64 fa, .int .i64 fw, .bool fg], fun W hW => (quietLoadCells 77 (.tmp 126) rfl b2 (o2 + k * 3) rfl [.int .i64 fa, .int .i64 fw, .bool fg] (grownCells lB' HC'.out hW) _ Try.underlying77 rfl (by kernel_rfl)), ?_⟩; simp only [Act.put, List.setIfInBounds_toArray, List.set_cons_zero, List.set_cons_succ]; go_big_quiet_on
      go_big_quiet_want; refine ⟨.bool false, fun W hW => (by simp [Oper.quietAt, Oper.quietUpon, go_sem]), ?_⟩; simp only [Act.put, List.setIfInBounds_toArray, List.set_cons_zero, List.set_cons_succ]; go_big_quiet_on
      refine wpQuiet_nil ?_
      intro X hX
      go_wp2_with fail
      go_roundw
      case rel => exact ⟨k + 1, by go_num, by omega, hb.trans (hX.mono hb.size)⟩
      case measure => simp [intOf]; omega
    · obtain rfl : N = k := by omega
      have HL90 := Lib.hid (HLU.out.kept hb)
      have hL7 : L.length ≤ maxLen := by unfold maxLen; omega
      clear Hd He H12 H13 G13 hb hF5 hk hkn
      by_cases hC : C = 0
      · subst hC
        have hvr := HDR.out rfl
        have HSQ := fun W h => Lib.hid (specValuesRight_any q xa xc L W h hL7)
        rw [hvr] at HSQ
        clear hvr
        go_wp2_with (first
          | (refine wpList_load_one rfl 68 (.tmp 112) rfl (R12) 3 rfl 70 #[.int .i64 P, .int .i64 S, .int .i64 R, .slice da N N] (0, 0) G12.out (.slice da N N) rfl _ Try.underlying68 rfl (by kernel_rfl) ?_)
          | (refine wpList_load_one rfl 2 (.tmp 129) rfl (R6) 1 rfl 66 #[.slice xa L.length xc, .int .i64 0] (0, 0) (HL90.out.get (.tail _ (.tail _ (.tail _ (.head _))))) (.int .i64 0) rfl _ Try.underlying2 rfl (by kernel_rfl) ?_)
          | (refine wpList_load_one (by kernel_rfl) 61 (.tmp 134) rfl (R6) 0 rfl 66 #[.slice xa L.length xc, .int .i64 0] (0, 0) (HL90.out.get (.tail _ (.tail _ (.tail _ (.head _))))) (.slice xa L.length xc) rfl _ Try.underlying61 rfl (by kernel_rfl) ?_))
        refine (HSQ _ (HL90.out.at (.tail _ (.tail _ (.tail _ (.tail _ (.tail _ (.head _))))))).ins).out.mono ?_
        rintro e w91 ⟨rfl, h91⟩
        have HL91 := Lib.hid (HL90.out.kept h91)
        clear h91
        rcases vr with _ | _
        · have hT := HT0.out rfl
          subst hT
          have eE : (ByteArray.mk #[] == ByteArray.mk #[]) = true := rfl
          go_wp2_with fail
          go_ret
          exact ⟨rfl, HL91.out.below⟩
        · obtain ⟨t1, t2, t3, t4⟩ := HT1.out rfl
          have eN := ba_ne (HTe.out t2)
          have eE : (T.toList == []) = false := by simpa using eN
          have eE2 : decide (T.toList = []) = false := decide_eq_false eN
          have HIT := fun W => Lib.hid (implDecode_any p T W hTs)
          unfold DecOut at HIT
          rw [t3, t4] at HIT
          have HSF2 := fun W => Lib.hid (specDefOf_any p W)
          unfold DefOut at HSF2
          rw [← t1] at HSF2
          have hfld := run_field_vo
          have hfld2 := run_field_def
          clear t1 t2 t3 t4
          go_wp2_with fail
          refine (HIT _).out.mono ?_
          rintro e wA ⟨za, zc, rfl, hz, hA⟩
          go_wp2_with fail
          refine (lwValues_same za b zc c l _ hz.ins ((HL91.out.at (.tail _ (.tail _ (.tail _ (.tail _ (.tail _ (.tail _ (.head _)))))))).ins.kept hA) (by omega)).mono ?_
          rintro e wB ⟨rfl, hB⟩
          go_wp2_with fail
          refine (HSF2 _).out.mono ?_
          rintro e wC ⟨fa2, rfl, _, hC2⟩
          have hAB := hA.trans (hB.mono hA.size)
          have hAC := hAB.trans (hC2.mono hAB.size)
          go_wp2_with fail
          go_ret
          exact ⟨rfl, HL91.out.below.trans (hAC.mono HL91.out.below.size)⟩
      · have eC0 : (C == 0) = false := by simpa using hC
        rcases vr with _ | _
        · have hT := HT0.out rfl
          subst hT
          have eE : (ByteArray.mk #[] == ByteArray.mk #[]) = true := rfl
          go_wp2_with (first
            | (refine wpList_load_one rfl 68 (.tmp 112) rfl (R12) 3 rfl 70 #[.int .i64 P, .int .i64 S, .int .i64 R, .slice da N N] (0, 0) G12.out (.slice da N N) rfl _ Try.underlying68 rfl (by kernel_rfl) ?_)
            | (refine wpList_load_one rfl 2 (.tmp 129) rfl (R6) 1 rfl 66 #[.slice xa L.length xc, .int .i64 C] (0, 0) (HL90.out.get (.tail _ (.tail _ (.tail _ (.head _))))) (.int .i64 C) rfl _ Try.underlying2 rfl (by kernel_rfl) ?_))
          go_ret
          exact ⟨rfl, HL90.out.below⟩
        · obtain ⟨t1, t2, t3, t4⟩ := HT1.out rfl
          have eN := ba_ne (HTe.out t2)
          have eE : (T.toList == []) = false := by simpa using eN
          have eE2 : decide (T.toList = []) = false := decide_eq_false eN
          have HIT := fun W => Lib.hid (implDecode_any p T W hTs)
          unfold DecOut at HIT
          rw [t3, t4] at HIT
          have HSF2 := fun W => Lib.hid (specDefOf_any p W)
          unfold DefOut at HSF2
          rw [← t1] at HSF2
          have hfld := run_field_vo
          have hfld2 := run_field_def
          clear t1 t2 t3 t4
          go_wp2_with (first
            | (refine wpList_load_one rfl 68 (.tmp 112) rfl (R12) 3 rfl 70 #[.int .i64 P, .int .i64 S, .int .i64 R, .slice da N N] (0, 0) G12.out (.slice da N N) rfl _ Try.underlying68 rfl (by kernel_rfl) ?_)
            | (refine wpList_load_one rfl 2 (.tmp 129) rfl (R6) 1 rfl 66 #[.slice xa L.length xc, .int .i64 C] (0, 0) (HL90.out.get (.tail _ (.tail _ (.tail _ (.head _))))) (.int .i64 C) rfl _ Try.underlying2 rfl (by kernel_rfl) ?_))
          refine (HIT _).out.mono ?_
          rintro e wA ⟨za, zc, rfl, hz, hA⟩
          go_wp2_with fail
          refine (lwValues_same za b zc c l _ hz.ins ((HL90.out.at (.tail _ (.tail _ (.tail _ (.tail _ (.tail _ (.tail _ (.head _)))))))).ins.kept hA) (by omega)).mono ?_
          rintro e wB ⟨rfl, hB⟩
          go_wp2_with fail
          refine (HSF2 _).out.mono ?_
          rintro e wC ⟨fa2, rfl, _, hC2⟩
          have hAB := hA.trans (hB.mono hA.size)
          have hAC := hAB.trans (hC2.mono hAB.size)
          go_wp2_with fail
          go_ret
          exact ⟨rfl, HL90.out.below.trans (hAC.mono HL90.out.below.size)⟩

set_option maxRecDepth 100000 in
theorem lifted (os : Os) (started : os.Started) (H : Type) (enc : TypeId × Value → H) :
    ReturnsInHanded {} Try.checked os 5 .any (Rows.fnTableSpec.pre6 enc Try.prog Try.f5 Rows.fnTableRow.domain false) (Rows.fnTableSpec.post enc Try.prog Try.f5 false true false false) := by
  refine returnsInHanded_of_change (C := Try.checked) own started (by kernel_rfl) Try.func5
    (ChangeSpec.witness6 (enc := enc) (C := Try.checked) false ⟨#[], #[.slice none 0 0, .slice none 0 0], []⟩ 8 (by kernel_rfl) (by kernel_rfl) (by kernel_rfl) (by kernel_rfl)) ?_
  intro W base args ds gs before hval0 hW hcnd _
  have hval : ∀ (j : Nat) t v, Try.f5.params[j]? = some t → args[j]? = some v → Value.okWide Try.prog W .any base t v := hval0
  have hW' := hW
  obtain ⟨p, q, hA0, hV, rfl, hfz, hnd⟩ := hW
  have hA : DataW.TrodAll enc Try.prog W 0 (fun _ => true) true Try.f5.params.toList args.toList ds p := hA0
  rw [Try.params5] at hA hval
  obtain ⟨v0, vs0, d0, ds0, p0, q0, hargs, rfl, rfl, h0, r0⟩ := trodAll_cons hA
  obtain ⟨v1, vs1, d1, ds1, p1, q1, rfl, rfl, rfl, h1, r1⟩ := trodAll_cons r0
  obtain ⟨rfl, rfl, rfl⟩ := trodAll_nil r1
  obtain rfl : args = #[v0, v1] := by cases args; simp_all
  obtain ⟨rfl, rfl⟩ := trodVars_none hV
  obtain ⟨a0, len0, cap0, rfl⟩ := okWide_slice Try.underlying22 (hval 0 22 v0 rfl rfl)
  have k0 := h0
  have lt0 : ∀ x ∈ p0, x.block < W.heap.size := by obtain ⟨m, hm⟩ := k0; exact DataW.trod_lt m _ _ _ hm
  obtain ⟨z0, w0⟩ : ∃ zs, IsRow .u8 W a0 len0 cap0 zs := by
    obtain ⟨fuel, hf⟩ := h0
    rcases open_ints Try.underlying22 Try.underlying5 (by kernel_rfl) hf with ⟨hcs, _⟩ | ⟨x, l, c, zs, hcs, _, hl, hm, hz, _, hcell, hwz⟩
    · simp [Value.cells] at hcs
      obtain ⟨rfl, rfl, rfl⟩ := hcs
      exact ⟨[], .inl ⟨rfl, rfl, rfl, rfl⟩⟩
    · simp [Value.cells] at hcs
      obtain ⟨rfl, rfl, rfl⟩ := hcs
      exact ⟨zs, .inr ⟨_, rfl, hl, hm, by simpa using hz, hcell, hwz⟩⟩
  obtain ⟨a1, len1, cap1, rfl⟩ := okWide_slice Try.underlying22 (hval 1 22 v1 rfl rfl)
  have k1 := h1
  have lt1 : ∀ x ∈ p1, x.block < W.heap.size := by obtain ⟨m, hm⟩ := k1; exact DataW.trod_lt m _ _ _ hm
  obtain ⟨z1, w1⟩ : ∃ zs, IsRow .u8 W a1 len1 cap1 zs := by
    obtain ⟨fuel, hf⟩ := h1
    rcases open_ints Try.underlying22 Try.underlying5 (by kernel_rfl) hf with ⟨hcs, _⟩ | ⟨x, l, c, zs, hcs, _, hl, hm, hz, _, hcell, hwz⟩
    · simp [Value.cells] at hcs
      obtain ⟨rfl, rfl, rfl⟩ := hcs
      exact ⟨[], .inl ⟨rfl, rfl, rfl, rfl⟩⟩
    · simp [Value.cells] at hcs
      obtain ⟨rfl, rfl, rfl⟩ := hcs
      exact ⟨zs, .inr ⟨_, rfl, hl, hm, by simpa using hz, hcell, hwz⟩⟩
  clear hA0 hval0
  refine (walk a0 len0 cap0 z0 a1 len1 cap1 z1 W w0 w1).mono fun e W' ⟨he, bel⟩ => ?_
  subst he
  exact ⟨_, rfl, _, _, _, [], _, [], hW', trodAll_mk1 (shut_bool Try.underlying4 _), (trodAll_cons_mk (Below.trod laidOut (by kernel_rfl) (of_decide_eq_true (by kernel_rfl)) k0 bel lt0) (trodAll_cons_mk (Below.trod laidOut (by kernel_rfl) (of_decide_eq_true (by kernel_rfl)) k1 bel lt1) trodAll_mk0)), rfl, bel.frame _, fun h => by cases h⟩

theorem over : Rows.fnTableRow.holds Try.pinned (OpenSpec.ofChange Rows.fnTableSpec) :=
  OpenClaim.holds_of_wide 5 Try.f5 rfl rfl rfl rfl rfl rfl rfl ⟨rfl, rfl, rfl, rfl, rfl⟩ rfl rfl rfl rfl rfl (by kernel_rfl) Try.func5 (by kernel_rfl)
    (of_decide_eq_true (by kernel_rfl)) (by unfold Func.isWrapper; first | (rw [if_pos (by decide +kernel)]; kernel_rfl) | (rw [if_neg (by decide +kernel)]; exact ⟨rfl, rfl⟩))
    (fun os started H enc _ => lifted os started H enc)

/-- ████ THE STATEMENT ████ -/
theorem proved : Rows.FnTableSaid := over
#print axioms proved
end Go.Proofs.Ytanijfmfjabmfaa.fnTable
