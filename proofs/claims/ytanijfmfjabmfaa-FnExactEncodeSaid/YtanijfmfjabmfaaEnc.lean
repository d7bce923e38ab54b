/- What Values of a group are written as: the program's and the model's. Nothing that was there is written. -/
import Derived.Test.YtanijfmfjabmfaaVRight
import Derived.Test.YtanijfmfjabmfaaRepeatN
import Derived.Test.YtanijfmfjabmfaaBitsPutI
import Derived.Test.YtanijfmfjabmfaaBitsSet
namespace Go.Proofs.Ytanijfmfjabmfaa
open Go.RowKit
set_option linter.unusedVariables false

theorem fput_len {s : ByteArray} {a w k n : Int} {g : Bool} (h : s.size ≤ 8000) : (fputI s a w g k n).length = s.size := by
  unfold fputI
  rw [if_neg (by omega)]
  split
  · exact putB_length _ _
  · simp
/-- The text with the first Values in it. -/
def encTo (F : List Fd) (l : List Vl) (t : List UInt8) : Nat → List UInt8
  | 0 => t
  | k + 1 => fputI ⟨(encTo F l t k).toArray⟩ (fdAt F k).a (fdAt F k).w (fdAt F k).g (vlAt l k).k (vlAt l k).v
theorem encTo_len {F : List Fd} {l : List Vl} {t : List UInt8} (h : t.length ≤ 8000) : ∀ k, (encTo F l t k).length = t.length
  | 0 => rfl
  | k + 1 => by
    have ih := encTo_len (F := F) (l := l) h k
    show (fputI _ _ _ _ _ _).length = _
    rw [fput_len (by show (encTo F l t k).toArray.size ≤ 8000; simpa [ih] using h)]
    show (encTo F l t k).toArray.size = _
    simpa using ih
theorem enc_size {F : List Fd} {l : List Vl} {Z : Nat} (hZ : Z ≤ 100) (k : Nat) : (⟨(encTo F l (fillL Z) k).toArray⟩ : ByteArray).size = Z := by
  show (encTo F l (fillL Z) k).toArray.size = Z
  rw [List.size_toArray, encTo_len (by simp [fillL]; omega)]
  simp [fillL]
/-- What is written. -/
def encF (v : Bool) (d : Df) (l : List Vl) : List UInt8 := if v then encTo d.fs l (fillL d.s.toNat) d.fs.length else []
def encL (p : Int) (l : List Vl) : List UInt8 := encF (vrB p l) (defD p) l
set_option maxRecDepth 100000 in
set_option maxHeartbeats 8000000 in
theorem implEncode_any (p : Int) (a2 : Option Addr) (c2 : Nat) (l : List Vl) (w : World) (hl : RsIn vlL 2 w a2 l) (hlen : l.length ≤ maxLen) :
    Calls Try.prog 43 #[.int .i64 p, .slice a2 l.length c2] w fun e w' => e = .returned (.string ⟨(encL p l).toArray⟩) ∧ Below w.heap.size w w' := by
  unfold maxLen at hlen
  have hF5 := defD_len p
  have hIn := @defD_in p
  have hS := defD_s p
  have HVR := fun W h => Lib.hid (implValuesRight_any p a2 c2 l W h hlen)
  have HD := fun W => Lib.hid (implDefOf_any p W)
  unfold DefOut at HD
  unfold encL
  have hvr : vrB p l = true → ixD p < 6 ∧ l.length = (defD p).fs.length ∧ ∀ i, i < (defD p).fs.length → vrAt (defD p).fs l i = true := fun h => by
    obtain ⟨h1, h2, h3⟩ := vrF_of h
    exact ⟨of_decide_eq_true h1, h2, h3⟩
  generalize defD p = d at *
  obtain ⟨P, S, R, F⟩ := d
  dsimp only at *
  obtain ⟨E, hE⟩ : ∃ E, encF (vrB p l) ⟨P, S, R, F⟩ l = E := ⟨_, rfl⟩
  rw [hE]
  have hE0 : vrB p l = false → E = [] := fun h => hE.symm.trans (by rw [h]; rfl)
  have hE1 : vrB p l = true → E = encTo F l (fillL S.toNat) F.length := fun h => hE.symm.trans (by rw [h]; rfl)
  clear hE
  have HLv := Lib.hid hl
  clear hl
  go_enter Try.func43, Try.ntmps43
  go_wp2_with fail
  refine ((HVR _ HLv.out).out).mono ?_
  rintro e w1 ⟨rfl, h⟩
  have HL1 := Lib.hid (show Lg w w1 [] [] from (Lg.first w).kept h)
  clear h
  rcases hV : vrB p l with _ | _
  · have hv := hE0 hV
    subst hv
    clear HD HVR
    go_wp2_with fail
    go_ret
    exact ⟨rfl, HL1.out.below⟩
  obtain ⟨hix, hln, _⟩ := hvr hV
  have hSz := hS.1 hix
  have HVy := Lib.hid (hE1 hV)
  clear hE0 hE1 hvr hS hV HVR
  obtain ⟨N, hN⟩ : ∃ N, F.length = N := ⟨_, rfl⟩
  have HNl := Lib.hid hN
  have HMl := Lib.hid (hln.trans hN)
  rw [hln, hN]
  rw [hN] at HD hF5 hIn HVy
  clear hN hln
  go_wp2_with fail
  refine ((HD _).out).mono ?_
  rintro e w2 ⟨a, rfl, hn, h⟩
  obtain ⟨L2, e2⟩ : ∃ x, w1.heap.size = x := ⟨_, rfl⟩
  obtain ⟨H2, f2⟩ : ∃ x, w2.heap.size = x := ⟨_, rfl⟩
  have qH2_L2 : L2 ≤ H2 := (by rw [← e2, ← f2]; exact h.size)
  have HL2 := Lib.hid (show Lg w w2 [] [(L2, H2, fun W => RsNew fdL 3 77 L2 H2 W a F)] from HL1.out.made e2 f2 h (by rw [← e2, ← f2]; exact hn.solid))
  clear h hn e2 f2
  obtain ⟨Z, hS8, rfl⟩ : ∃ Z : Nat, (Z = 8 ∨ Z = 14) ∧ S = (Z : Int) := by
    rcases hSz with rfl | rfl
    · exact ⟨8, .inl rfl, rfl⟩
    · exact ⟨14, .inr rfl, rfl⟩
  go_wp2_with (first
    | (refine wpList_alloc_h rfl 70 rfl (.agg #[.int .i64 0, .int .i64 0, .int .i64 0, .slice none 0 0]) (by kernel_rfl) #[.int .i64 0, .int .i64 0, .int .i64 0, .slice none 0 0] rfl ?_; intro w3 R3 e3 g3 b3; have qR3_H2 : H2 ≤ R3 := Nat.le_trans (HL2.out.hi (.head _)).2 (Nat.le_of_eq e3); have HL3 := Lib.hid (show Lg w w3 [(R3, #[.int .i64 0, .int .i64 0, .int .i64 0, .slice none 0 0], 70)] [(L2, H2, fun W => RsNew fdL 3 77 L2 H2 W a F)] from HL2.out.box e3 g3 b3); clear g3 b3 e3)
    | (refine wpList_put_at rfl 70 (.tmp 5) (.tmp 14) rfl rfl (R3) 0 rfl (.agg #[.int .i64 P, .int .i64 (Z : Int), .int .i64 R, .slice a N N]) rfl #[.int .i64 P, .int .i64 (Z : Int), .int .i64 R, .slice a N N] rfl 70 #[.int .i64 0, .int .i64 0, .int .i64 0, .slice none 0 0] #[.int .i64 P, .int .i64 (Z : Int), .int .i64 R, .slice a N N] (HL3.out.get (.head _)) (by kernel_rfl) (by kernel_rfl) (by kernel_rfl) (by kernel_rfl) ?_; intro w4 g4 o4; have HL4 := Lib.hid (show Lg w w4 [(R3, #[.int .i64 P, .int .i64 (Z : Int), .int .i64 R, .slice a N N], 70)] [(L2, H2, fun W => RsNew fdL 3 77 L2 H2 W a F)] from HL3.out.put 0 rfl g4 o4 (fun _ h => nomatch h) (List.forall_mem_cons.2 ⟨.inl qR3_H2, (fun _ h => nomatch h)⟩) rfl); clear g4 o4)
    | (have HLit := Lib.hid (show Lg w (w4.alloc (.cells #[.int .u8 255] 5)) [(R3, #[.int .i64 P, .int .i64 (Z : Int), .int .i64 R, .slice a N N], 70)] [(L2, H2, fun W => RsNew fdL 3 77 L2 H2 W a F)] from HL4.out.kept ((Below.refl _ _).alloc (Nat.le_refl _) _)); refine wpList_load_one rfl 2 (.tmp 16) rfl (R3) 1 rfl 70 #[.int .i64 P, .int .i64 (Z : Int), .int .i64 R, .slice a N N] (0, 0) (HLit.out.get (.head _)) (.int .i64 (Z : Int)) rfl _ Try.underlying2 rfl (by kernel_rfl) ?_))
  refine (repeatN_any Z hS8 _ _ 255 (cell_new1 _ _ _) (by simp)).mono ?_
  rintro e w5 ⟨G, rfl, hG, hh, hb5⟩
  have HL5 := Lib.hid (show Lg w w5 [(R3, #[.int .i64 P, .int .i64 (Z : Int), .int .i64 R, .slice a N N], 70)] [(L2, H2, fun W => RsNew fdL 3 77 L2 H2 W a F)] from HLit.out.kept hb5)
  have hcv := conv_row (P := Try.prog) (l := fillL Z) hh Z (by simp [fillL]) (by rw [fillL_cells]; simp) 22 9 Try.underlying22 Try.underlying5 Try.underlying9 Z
  clear hh hb5 hG
  go_wp2_with (refine wpList_load_one rfl 68 (.tmp 20) rfl (R3) 3 rfl 70 #[.int .i64 P, .int .i64 (Z : Int), .int .i64 R, .slice a N N] (0, 0) (HL5.out.get (.head _)) (.slice a N N) rfl _ Try.underlying68 rfl (by kernel_rfl) ?_)
  have HFl := Lib.hid (HL5.out.at (.head _)).ins
  have HBp := Lib.hid HL5.out.below
  have HLq := Lib.hid (HLv.out.kept HBp.out)
  clear HLit HL5
  go_loopw [6, 23] (fun v i wr => ∃ k : Nat, i = .int .i64 (k : Int) ∧ v = .string ⟨(encTo F l (fillL Z) k).toArray⟩ ∧ k ≤ N ∧ Below w5.heap.size w5 wr) (fun _ i _ => N - (intOf i).toNat)
  case atStart => exact ⟨0, rfl, rfl, by omega, Below.refl _ _⟩
  case round =>
    obtain ⟨k, rfl, rfl, hk, hb⟩ := hrel
    by_cases hkn : k < N
    · have hi1 : (0 : Int) ≤ (k : Int) := by omega
      have hi2 : (k : Int) < (N : Int) := by omega
      have hkF : k < F.length := by have := HNl.out; omega
      have hkl : k < l.length := by have := HMl.out; omega
      obtain ⟨b, o, rfl, hlt, hc⟩ := HFl.out.at (by omega)
      obtain ⟨b2, o2, rfl, hlt2, hc2⟩ := HLq.out.at (by omega)
      have lv : b2 < wr.heap.size := Nat.lt_of_lt_of_le hlt2 hb.size
      have HCf := Lib.hid (fun j v hv => (hb.cell (p := ⟨b, _, none⟩) hlt).trans (hc k _ (fdAt_some hkF) j v hv))
      have HCv := Lib.hid (fun j v hv => (hb.cell (p := ⟨b2, _, none⟩) hlt2).trans (hc2 k _ (vlAt_some hkl) j v hv))
      have hsz : (⟨(encTo F l (fillL Z) k).toArray⟩ : ByteArray).size ≤ maxLen := by
        rw [enc_size (by omega)]
        unfold maxLen
        omega
      have HPut := fun W => Lib.hid (implFieldPut_any ⟨(encTo F l (fillL Z) k).toArray⟩ (fdAt F k).a (fdAt F k).w (fdAt F k).g (vlAt l k).k (vlAt l k).v W hsz)
      have HE := Lib.hid (show encTo F l (fillL Z) (k + 1) = fputI ⟨(encTo F l (fillL Z) k).toArray⟩ (fdAt F k).a (fdAt F k).w (fdAt F k).g (vlAt l k).k (vlAt l k).v from rfl)
      clear hc hc2 hsz
      generalize encTo F l (fillL Z) k = T at *
      generalize fdAt F k = x at *
      generalize vlAt l k = y at *
      obtain ⟨fa, fw, fg⟩ := x
      obtain ⟨vk, vn⟩ := y
      unfold fdL at HCf
      unfold vlL at HCv
      unfold fdV vlV at HPut
      dsimp only at *
      generalize fputI ⟨T.toArray⟩ fa fw fg vk vn = O at *
      go_wp2_with (first
        | (refine wpList_load_cells rfl 77 (.tmp 26) rfl b (o + k * 3) rfl [.int .i64 fa, .int .i64 fw, .bool fg] HCf.out _ Try.underlying77 rfl (by kernel_rfl) ?_)
        | (refine wpList_alloc_h rfl 77 rfl (.agg #[.int .i64 0, .int .i64 0, .bool false]) (by kernel_rfl) #[.int .i64 0, .int .i64 0, .bool false] rfl ?_; intro w1 qR1 e1 g1 b1; have HL1 := Lib.hid (show Lg wr w1 [(qR1, #[.int .i64 0, .int .i64 0, .bool false], 77)] [] from (Lg.first wr).box e1 g1 b1); clear g1 b1 e1)
        | (refine wpList_put_at rfl 77 (.tmp 8) (.tmp 27) rfl rfl (qR1) 0 rfl (.agg #[.int .i64 fa, .int .i64 fw, .bool fg]) rfl #[.int .i64 fa, .int .i64 fw, .bool fg] rfl 77 #[.int .i64 0, .int .i64 0, .bool false] #[.int .i64 fa, .int .i64 fw, .bool fg] (HL1.out.get (.head _)) (by kernel_rfl) (by kernel_rfl) (by kernel_rfl) (by kernel_rfl) ?_; intro w2 g2 o2; have HL2 := Lib.hid (show Lg wr w2 [(qR1, #[.int .i64 fa, .int .i64 fw, .bool fg], 77)] [] from HL1.out.put 0 rfl g2 o2 (fun _ h => nomatch h) (fun _ h => nomatch h) rfl); clear g2 o2))
      refine wp_region_quiet (C := fun W => Below w2.heap.size w2 W) (by kernel_rfl) (by kernel_rfl) (Below.refl _ _).drew ?_
      dsimp only
      go_big_quiet_want; go_big_quiet_op; first | go_big_quiet_on | (refine ⟨_, fun _ _ => rfl, ?_⟩; go_big_quiet_on)
      go_big_quiet_want; refine ⟨.agg #[.int .i64 fa, .int .i64 fw, .bool fg], fun W hW => (quietLoadCells 77 (.tmp 8) rfl qR1 0 rfl [.int .i64 fa, .int .i64 fw, .bool fg] (rowAt0 (HL2.out.get (.head _)) hW) _ Try.underlying77 rfl (by kernel_rfl)), ?_⟩; simp only [Act.put, List.setIfInBounds_toArray, List.set_cons_zero, List.set_cons_succ]; go_big_quiet_on
      go_big_quiet_want; go_big_quiet_op; first | go_big_quiet_on | (refine ⟨_, fun _ _ => rfl, ?_⟩; go_big_quiet_on)
      go_big_quiet_want; go_big_quiet_op; first | go_big_quiet_on | (refine ⟨_, fun _ _ => rfl, ?_⟩; go_big_quiet_on)
      go_big_quiet_want; go_big_quiet_op; first | go_big_quiet_on | (refine ⟨_, fun _ _ => rfl, ?_⟩; go_big_quiet_on)
      go_big_quiet_want; refine ⟨.agg #[.int .i64 vk, .int .i64 vn], fun W hW => (quietLoadCells 142 (.tmp 32) rfl b2 (o2 + k * 2) rfl [.int .i64 vk, .int .i64 vn] (grownCells (Nat.lt_of_lt_of_le lv HL2.out.below.size) (fun j v hv => (HL2.out.below.cell (p := ⟨b2, _, none⟩) lv).trans (HCv.out j v hv)) hW) _ Try.underlying142 rfl (by kernel_rfl)), ?_⟩; simp only [Act.put, List.setIfInBounds_toArray, List.set_cons_zero, List.set_cons_succ]; go_big_quiet_on
      go_big_quiet_want; go_big_quiet_op; refine ⟨_, fun W hW => quietCall hW (HPut W).out, ?_⟩; go_big_quiet_on
      go_big_quiet_want; go_big_quiet_op; first | go_big_quiet_on | (refine ⟨_, fun _ _ => rfl, ?_⟩; go_big_quiet_on)
      refine wpQuiet_nil ?_
      intro X hX
      have hbX := hb.trans ((HL2.out.below.trans (hX.mono HL2.out.below.size)).mono hb.size)
      go_wp2_with fail
      go_roundw
      case rel => exact ⟨k + 1, by go_num, by rw [HE.out], by omega, hbX⟩
      case measure => simp [intOf]; omega
    · obtain rfl : k = N := by omega
      have hv := HVy.out
      go_wp2_with fail
      go_ret
      exact ⟨by rw [hv]; rfl, HBp.out.trans (hb.mono HBp.out.size)⟩
set_option maxRecDepth 100000 in
set_option maxHeartbeats 8000000 in
theorem l08Encode_any (p : Int) (a2 : Option Addr) (c2 : Nat) (l : List Vl) (w : World) (hl : RsIn vlL 2 w a2 l) (hlen : l.length ≤ maxLen) (hV : vrB p l = true) :
    Calls Try.prog 132 #[.int .i64 p, .slice a2 l.length c2] w fun e w' => e = .returned (.string ⟨(encL p l).toArray⟩) ∧ Below w.heap.size w w' := by
  unfold maxLen at hlen
  have hF5 := defD_len p
  have hIn := @defD_in p
  have hS := defD_s p
  have HD := fun W => Lib.hid (specDefOf_any p W)
  unfold DefOut at HD
  unfold encL
  have hvr : vrB p l = true → ixD p < 6 ∧ l.length = (defD p).fs.length ∧ ∀ i, i < (defD p).fs.length → vrAt (defD p).fs l i = true := fun h => by
    obtain ⟨h1, h2, h3⟩ := vrF_of h
    exact ⟨of_decide_eq_true h1, h2, h3⟩
  generalize defD p = d at *
  obtain ⟨P, S, R, F⟩ := d
  dsimp only at *
  obtain ⟨E, hE⟩ : ∃ E, encF (vrB p l) ⟨P, S, R, F⟩ l = E := ⟨_, rfl⟩
  rw [hE]
  have hE0 : vrB p l = false → E = [] := fun h => hE.symm.trans (by rw [h]; rfl)
  have hE1 : vrB p l = true → E = encTo F l (fillL S.toNat) F.length := fun h => hE.symm.trans (by rw [h]; rfl)
  clear hE
  have HLv := Lib.hid hl
  clear hl
  obtain ⟨hix, hln, hall⟩ := hvr hV
  have hSz := hS.1 hix
  have HVy := Lib.hid (hE1 hV)
  clear hE0 hE1 hvr hS hV
  obtain ⟨N, hN⟩ : ∃ N, F.length = N := ⟨_, rfl⟩
  have HNl := Lib.hid hN
  have HMl := Lib.hid (hln.trans hN)
  have HAl := Lib.hid hall
  rw [hln, hN]
  rw [hN] at HD hF5 hIn HVy
  have HIn := Lib.hid (fun i h => hIn (i := i) h)
  clear hN hln hall hIn
  obtain ⟨Z, hS8, rfl⟩ : ∃ Z : Nat, (Z = 8 ∨ Z = 14) ∧ S = (Z : Int) := by
    rcases hSz with rfl | rfl
    · exact ⟨8, .inl rfl, rfl⟩
    · exact ⟨14, .inr rfl, rfl⟩
  clear hSz
  go_enter Try.func132, Try.ntmps132
  go_wp2_with fail
  refine ((HD _).out).mono ?_
  rintro e w1 ⟨a, rfl, hn, h⟩
  obtain ⟨L1, e1⟩ : ∃ x, w.heap.size = x := ⟨_, rfl⟩
  obtain ⟨H1, f1⟩ : ∃ x, w1.heap.size = x := ⟨_, rfl⟩
  have qH1_L1 : L1 ≤ H1 := (by rw [← e1, ← f1]; exact h.size)
  have HL1 := Lib.hid (show Lg w w1 [] [(L1, H1, fun W => RsNew fdL 3 77 L1 H1 W a F)] from (Lg.first w).made e1 f1 h (by rw [← e1, ← f1]; exact hn.solid))
  clear h hn e1 f1
  go_wp2_with (first
    | (refine wpList_alloc_h rfl 70 rfl (.agg #[.int .i64 0, .int .i64 0, .int .i64 0, .slice none 0 0]) (by kernel_rfl) #[.int .i64 0, .int .i64 0, .int .i64 0, .slice none 0 0] rfl ?_; intro w2 R2 e2 g2 b2; have qR2_H1 : H1 ≤ R2 := Nat.le_trans (HL1.out.hi (.head _)).2 (Nat.le_of_eq e2); have HL2 := Lib.hid (show Lg w w2 [(R2, #[.int .i64 0, .int .i64 0, .int .i64 0, .slice none 0 0], 70)] [(L1, H1, fun W => RsNew fdL 3 77 L1 H1 W a F)] from HL1.out.box e2 g2 b2); clear g2 b2 e2)
    | (refine wpList_put_at rfl 70 (.tmp 5) (.tmp 9) rfl rfl (R2) 0 rfl (.agg #[.int .i64 P, .int .i64 (Z : Int), .int .i64 R, .slice a N N]) rfl #[.int .i64 P, .int .i64 (Z : Int), .int .i64 R, .slice a N N] rfl 70 #[.int .i64 0, .int .i64 0, .int .i64 0, .slice none 0 0] #[.int .i64 P, .int .i64 (Z : Int), .int .i64 R, .slice a N N] (HL2.out.get (.head _)) (by kernel_rfl) (by kernel_rfl) (by kernel_rfl) (by kernel_rfl) ?_; intro w3 g3 o3; have HL3 := Lib.hid (show Lg w w3 [(R2, #[.int .i64 P, .int .i64 (Z : Int), .int .i64 R, .slice a N N], 70)] [(L1, H1, fun W => RsNew fdL 3 77 L1 H1 W a F)] from HL2.out.put 0 rfl g3 o3 (fun _ h => nomatch h) (List.forall_mem_cons.2 ⟨.inl qR2_H1, (fun _ h => nomatch h)⟩) rfl); clear g3 o3)
    | (refine wpList_load_one rfl 2 (.tmp 10) rfl (R2) 1 rfl 70 #[.int .i64 P, .int .i64 (Z : Int), .int .i64 R, .slice a N N] (0, 0) (HL3.out.get (.head _)) (.int .i64 (Z : Int)) rfl _ Try.underlying2 rfl (by kernel_rfl) ?_))
  refine ((l06FillE_any Z (by omega) _)).mono ?_
  rintro e w4 ⟨rfl, h⟩
  have HL4 := Lib.hid (show Lg w w4 [(R2, #[.int .i64 P, .int .i64 (Z : Int), .int .i64 R, .slice a N N], 70)] [(L1, H1, fun W => RsNew fdL 3 77 L1 H1 W a F)] from HL3.out.kept h)
  clear h
  go_wp2_with fail
  have HFl := Lib.hid (HL4.out.at (.head _)).ins
  have HR50 := Lib.hid (HL4.out.get (.head _))
  have HBp := Lib.hid HL4.out.below
  have HLq := Lib.hid (HLv.out.kept HBp.out)
  clear HL1 HL2 HL3 HL4
  go_loopw [6, 7] (fun v i wr => ∃ k : Nat, i = .int .i64 (k : Int) ∧ v = .string ⟨(encTo F l (fillL Z) k).toArray⟩ ∧ k ≤ N ∧ Below w4.heap.size w4 wr) (fun _ i _ => N - (intOf i).toNat)
  case atStart => exact ⟨0, rfl, rfl, by omega, Below.refl _ _⟩
  case round =>
    obtain ⟨k, rfl, rfl, hk, hb⟩ := hrel
    by_cases hkn : k < N
    · have hi1 : (0 : Int) ≤ (k : Int) := by omega
      have hi2 : (k : Int) < (N : Int) := by omega
      have hkF : k < F.length := by have := HNl.out; omega
      have hkl : k < l.length := by have := HMl.out; omega
      obtain ⟨b, o, rfl, hlt, hc⟩ := HFl.out.at (by omega)
      obtain ⟨b2, o2, rfl, hlt2, hc2⟩ := HLq.out.at (by omega)
      have lv : b2 < wr.heap.size := Nat.lt_of_lt_of_le hlt2 hb.size
      have lf : b < wr.heap.size := Nat.lt_of_lt_of_le hlt hb.size
      have HR5 := Lib.hid ((hb.block _ (Array.getElem?_eq_some_iff.1 HR50.out).1).trans HR50.out)
      have HCf := Lib.hid (fun j v hv => (hb.cell (p := ⟨b, _, none⟩) hlt).trans (hc k _ (fdAt_some hkF) j v hv))
      have HCv := Lib.hid (fun j v hv => (hb.cell (p := ⟨b2, _, none⟩) hlt2).trans (hc2 k _ (vlAt_some hkl) j v hv))
      have hsz : (⟨(encTo F l (fillL Z) k).toArray⟩ : ByteArray).size = Z := enc_size (by omega) k
      obtain ⟨A, B, ha, hbw, q1, q2, q3, q4⟩ := HIn.out k hkn
      have hva := HAl.out k hkF
      unfold vrAt at hva
      have HPut : ∀ W, Hid (Calls Try.prog 182 #[.string ⟨(encTo F l (fillL Z) k).toArray⟩, fdV (fdAt F k).a (fdAt F k).w (fdAt F k).g, vlV (vlAt l k).k (vlAt l k).v] W fun e W' => e = .returned (.string ⟨(encTo F l (fillL Z) (k + 1)).toArray⟩) ∧ Below W.heap.size W W') := fun W => Lib.hid (by
        rw [ha, hbw] at hva ⊢
        have h1 : hasB ⟨(encTo F l (fillL Z) k).toArray⟩ (A : Int) (B : Int) = true := hasB_lit q1 q2 q3 (by omega)
        have h2 := l07Set_any ⟨(encTo F l (fillL Z) k).toArray⟩ A B (fdAt F k).g (vlAt l k).k (vlAt l k).v W (by omega) q1 q2 q3 (by omega) hva
        rw [← fput_on (by omega) hva h1] at h2
        rw [← ha, ← hbw] at h2 ⊢
        exact h2)
      clear hc hc2 hsz hva ha hbw q4
      obtain ⟨O, hO⟩ : ∃ O, encTo F l (fillL Z) (k + 1) = O := ⟨_, rfl⟩
      rw [hO] at HPut
      have HO := Lib.hid hO
      clear hO
      generalize encTo F l (fillL Z) k = T at *
      generalize fdAt F k = x at *
      generalize vlAt l k = y at *
      obtain ⟨fa, fw, fg⟩ := x
      obtain ⟨vk, vn⟩ := y
      unfold fdL at HCf
      unfold vlL at HCv
      unfold fdV vlV at HPut
      dsimp only at *
      go_wp2_with fail
      refine wp_region_quiet (C := fun W => Below wr.heap.size wr W) (by kernel_rfl) (by kernel_rfl) (Below.refl _ _).drew ?_
      dsimp only
      go_big_quiet_want; go_big_quiet_op; first | go_big_quiet_on | (refine ⟨_, fun _ _ => rfl, ?_⟩; go_big_quiet_on)
      go_big_quiet_want; go_big_quiet_op; first | go_big_quiet_on | (refine ⟨_, fun _ _ => rfl, ?_⟩; go_big_quiet_on)
      go_big_quiet_want; refine ⟨.slice (some ⟨b, o, none⟩) N N, fun W hW => (quietLoadOne 68 (.tmp 20) rfl R2 3 rfl _ (rowCells HR5.out hW _ _ rfl) _ Try.underlying68 rfl), ?_⟩; simp only [Act.put, List.setIfInBounds_toArray, List.set_cons_zero, List.set_cons_succ]; go_big_quiet_on
      go_big_quiet_want; go_big_quiet_op; first | go_big_quiet_on | (refine ⟨_, fun _ _ => rfl, ?_⟩; go_big_quiet_on)
      go_big_quiet_want; go_big_quiet_op; first | go_big_quiet_on | (refine ⟨_, fun _ _ => rfl, ?_⟩; go_big_quiet_on)
      go_big_quiet_want; refine ⟨.agg #[.int .i64 fa, .int .i64 fw, .bool fg], fun W hW => (quietLoadCells 77 (.tmp 23) rfl b (o + k * 3) rfl [.int .i64 fa, .int .i64 fw, .bool fg] (grownCells lf HCf.out hW) _ Try.underlying77 rfl (by kernel_rfl)), ?_⟩; simp only [Act.put, List.setIfInBounds_toArray, List.set_cons_zero, List.set_cons_succ]; go_big_quiet_on
      go_big_quiet_want; go_big_quiet_op; first | go_big_quiet_on | (refine ⟨_, fun _ _ => rfl, ?_⟩; go_big_quiet_on)
      go_big_quiet_want; go_big_quiet_op; first | go_big_quiet_on | (refine ⟨_, fun _ _ => rfl, ?_⟩; go_big_quiet_on)
      go_big_quiet_want; go_big_quiet_op; first | go_big_quiet_on | (refine ⟨_, fun _ _ => rfl, ?_⟩; go_big_quiet_on)
      go_big_quiet_want; refine ⟨.agg #[.int .i64 vk, .int .i64 vn], fun W hW => (quietLoadCells 142 (.tmp 27) rfl b2 (o2 + k * 2) rfl [.int .i64 vk, .int .i64 vn] (grownCells lv HCv.out hW) _ Try.underlying142 rfl (by kernel_rfl)), ?_⟩; simp only [Act.put, List.setIfInBounds_toArray, List.set_cons_zero, List.set_cons_succ]; go_big_quiet_on
      go_big_quiet_want; go_big_quiet_op; refine ⟨_, fun W hW => quietCall hW (HPut W).out, ?_⟩; go_big_quiet_on
      go_big_quiet_want; go_big_quiet_op; first | go_big_quiet_on | (refine ⟨_, fun _ _ => rfl, ?_⟩; go_big_quiet_on)
      refine wpQuiet_nil ?_
      intro X hX
      have hbX := hb.trans (hX.mono hb.size)
      go_wp2_with fail
      go_roundw
      case rel => exact ⟨k + 1, by go_num, by rw [HO.out], by omega, hbX⟩
      case measure => simp [intOf]; omega
    · obtain rfl : k = N := by omega
      have hv := HVy.out
      go_wp2_with fail
      go_ret
      exact ⟨by rw [hv]; rfl, HBp.out.trans (hb.mono HBp.out.size)⟩
set_option maxRecDepth 100000 in
set_option maxHeartbeats 8000000 in
theorem specEncode_any (p : Int) (a2 : Option Addr) (c2 : Nat) (l : List Vl) (w : World) (hl : RsIn vlL 2 w a2 l) (hlen : l.length ≤ maxLen) :
    Calls Try.prog 49 #[.int .i64 p, .slice a2 l.length c2] w fun e w' => e = .returned (.string ⟨(encL p l).toArray⟩) ∧ Below w.heap.size w w' := by
  have HVR := fun W h => Lib.hid (specValuesRight_any p a2 c2 l W h hlen)
  have HLv := Lib.hid hl
  obtain ⟨E, hE⟩ : ∃ E, encL p l = E := ⟨_, rfl⟩
  rcases hV : vrB p l with _ | _
  · have hv : E = [] := hE.symm.trans (by unfold encL; rw [hV]; rfl)
    subst hv
    rw [hE]
    rw [hV] at HVR
    go_enter Try.func49, Try.ntmps49
    go_wp2_with fail
    refine (HVR _ HLv.out).out.mono ?_
    rintro e w1 ⟨rfl, h1⟩
    go_wp2_with fail
    go_ret
    exact ⟨rfl, h1⟩
  · have HEn := fun W h => Lib.hid (l08Encode_any p a2 c2 l W h hlen hV)
    rw [hE] at HEn ⊢
    rw [hV] at HVR
    clear hE hV hl
    go_enter Try.func49, Try.ntmps49
    go_wp2_with fail
    refine (HVR _ HLv.out).out.mono ?_
    rintro e w1 ⟨rfl, h1⟩
    go_wp2_with fail
    refine (HEn _ (HLv.out.kept h1)).out.mono ?_
    rintro e w2 ⟨rfl, h2⟩
    go_wp2_with fail
    go_ret
    exact ⟨rfl, h1.trans (h2.mono h1.size)⟩
end Go.Proofs.Ytanijfmfjabmfaa
