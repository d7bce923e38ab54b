/- What a group's bytes tell: the program's and the model's, in memory of the call's own. -/
import Derived.Test.YtanijfmfjabmfaaVRight
import Derived.Test.YtanijfmfjabmfaaBitsGetI
import Derived.Test.YtanijfmfjabmfaaBitsVal3
import Derived.Test.YtanijfmfjabmfaaBitsVal4
import Derived.Test.YtanijfmfjabmfaaRsOwn
namespace Go.Proofs.Ytanijfmfjabmfaa
open Go.RowKit
set_option linter.unusedVariables false

/-- The code of a text that is to have so many bytes. -/
def sizeC (n : Nat) (z : Int) : Int := if (n : Int) < z then 4 else if z < (n : Int) then 2 else 0
/-- What one Field tells. -/
def tellF (s : ByteArray) (f : Fd) : Vl := ⟨(fgetI s f.a f.w f.g).1, (fgetI s f.a f.w f.g).2⟩
def decF (s : ByteArray) (F : List Fd) : List Vl := F.map (tellF s)
/-- The code, and the Values. -/
def decC (there : Bool) (z : Int) (s : ByteArray) : Int := if 8000 < s.size then 2 else if there then sizeC s.size z else 6
def decV (there : Bool) (z : Int) (F : List Fd) (s : ByteArray) : List Vl := if decC there z s = 0 then decF s F else []
theorem decF_take {s : ByteArray} {F : List Fd} {k : Nat} (h : k < F.length) : decF s (F.take (k + 1)) = decF s (F.take k) ++ [tellF s (fdAt F k)] := by
  rw [List.take_add_one, fdAt_some h]
  unfold decF
  simp
theorem decF_len (s : ByteArray) (F : List Fd) : (decF s F).length = F.length := by simp [decF]
theorem Dec.info : (Try.prog.info? 142).map (fun i => (i.zero, i.size, i.bytes)) = some (some (.agg #[.int .i64 0, .int .i64 0]), 2, 16) := by kernel_rfl
theorem sizeFault_any (s : ByteArray) (z : Int) (w : World) (hs : s.size ≤ 8000) :
    Calls Try.prog 127 #[.string s, .int .i64 z] w fun e w' => e = .returned (.int .i64 (sizeC s.size z)) ∧ w = w' := by
  obtain ⟨C, hC⟩ : ∃ C, sizeC s.size z = C := ⟨_, rfl⟩
  rw [hC]
  by_cases h1 : (s.size : Int) < z
  · have d1 : decide ((s.size : Int) < z) = true := decide_eq_true h1
    have HC := Lib.hid (hC.symm.trans (if_pos h1))
    clear hC
    go_enter Try.func127, Try.ntmps127
    go_wp2
    go_ret
    exact ⟨by rw [HC.out]; rfl, rfl⟩
  · have d1 : decide ((s.size : Int) < z) = false := decide_eq_false h1
    by_cases h2 : z < (s.size : Int)
    · have d2 : decide (z < (s.size : Int)) = true := decide_eq_true h2
      have HC := Lib.hid (hC.symm.trans ((if_neg h1).trans (if_pos h2)))
      clear hC
      go_enter Try.func127, Try.ntmps127
      go_wp2
      go_ret
      exact ⟨by rw [HC.out]; rfl, rfl⟩
    · have d2 : decide (z < (s.size : Int)) = false := decide_eq_false h2
      have HC := Lib.hid (hC.symm.trans ((if_neg h1).trans (if_neg h2)))
      clear hC
      go_enter Try.func127, Try.ntmps127
      go_wp2
      go_ret
      exact ⟨by rw [HC.out]; rfl, rfl⟩
/-- What Decode answers. -/
def DecOut (p : Int) (s : ByteArray) (w : World) (e : Ending) (w' : World) : Prop :=
  ∃ a c, e = .returned (.agg #[.slice a (decV (decide (ixD p < 6)) (defD p).s (defD p).fs s).length c, .int .i64 (decC (decide (ixD p < 6)) (defD p).s s)]) ∧ RsNew vlL 2 142 w.heap.size w'.heap.size w' a (decV (decide (ixD p < 6)) (defD p).s (defD p).fs s) ∧ Below w.heap.size w w'
set_option maxRecDepth 100000 in
set_option maxHeartbeats 8000000 in
theorem implDecode_any (p : Int) (s : ByteArray) (w : World) (hs : s.size ≤ maxLen) :
    Calls Try.prog 45 #[.int .i64 p, .string s] w (DecOut p s w) := by
  have HL := fun U => Lib.hid (tooLong_any s U hs)
  obtain ⟨i0, hi, hz0, hz1, hz2⟩ := info_parts Dec.info
  have HI0 := Lib.hid hi
  clear hi
  unfold maxLen at hs
  have hF5 := defD_len p
  have hIn := @defD_in p
  have hS := defD_s p
  have HRow := fun B G W h => Lib.hid (rowOf_d B G p W h)
  have HN := Lib.hid (fun B G W lo hi h1 h2 h3 => @flds_new B G W lo hi h1 h2 h3 p)
  unfold DecOut
  generalize defD p = d at *
  obtain ⟨P, S, R, F⟩ := d
  dsimp only at *
  obtain ⟨there, hth⟩ : ∃ t, decide (ixD p < 6) = t := ⟨_, rfl⟩
  rw [hth] at HRow ⊢
  have hSz : there = true → S = 8 ∨ S = 14 := fun h => hS.1 (of_decide_eq_true (hth.trans h))
  have hSn : there = false → S = 0 := fun h => (hS.2 (of_decide_eq_false (hth.trans h))).1
  clear hth hS
  obtain ⟨C, hC⟩ : ∃ C, decC there S s = C := ⟨_, rfl⟩
  obtain ⟨E, hE⟩ : ∃ E, decV there S F s = E := ⟨_, rfl⟩
  rw [hC, hE]
  have hE0 : C ≠ 0 → E = [] := fun h => hE.symm.trans (if_neg (by rw [hC]; exact h))
  have hE1 : C = 0 → E = decF s F := fun h => hE.symm.trans (if_pos (by rw [hC]; exact h))
  clear hE
  obtain ⟨N, hN⟩ : ∃ N, F.length = N := ⟨_, rfl⟩
  have HNl := Lib.hid hN
  rw [hN] at HRow hF5 hIn
  clear hN
  by_cases hbig : 8000 < s.size
  · have hd : decide (8000 < (s.size : Int)) = true := decide_eq_true (by omega)
    rw [hd] at HL
    have hC2 : C = 2 := hC.symm.trans (if_pos hbig)
    have HC := Lib.hid hC2
    have HE := Lib.hid (hE0 (by rw [hC2]; decide))
    clear hC hC2 hE0 hE1 hSz hSn hIn HRow
    go_enter Try.func45, Try.ntmps45
    go_wp2_with (first
      | (refine wpList_alloc_h rfl 66 rfl (.agg #[.slice none 0 0, .int .i64 0]) (by kernel_rfl) #[.slice none 0 0, .int .i64 0] rfl ?_; intro w1 R1 e1 g1 b1; have HL1 := Lib.hid (show Lg w w1 [(R1, #[.slice none 0 0, .int .i64 0], 66)] [] from (Lg.first w).box e1 g1 b1); clear g1 b1 e1))
    refine ((HL _).out).mono ?_
    rintro e w' ⟨rfl, rfl⟩
    go_wp2_with (first
      | (refine wpList_put_at rfl 66 (.tmp 4) (.tmp 13) rfl rfl (R1) 0 rfl (.agg #[.slice none 0 0, .int .i64 2]) rfl #[.slice none 0 0, .int .i64 2] rfl 66 #[.slice none 0 0, .int .i64 0] #[.slice none 0 0, .int .i64 2] (HL1.out.get (.head _)) (by kernel_rfl) (by kernel_rfl) (by kernel_rfl) (by kernel_rfl) ?_; intro w2 g2 o2; have HL2 := Lib.hid (show Lg w w2 [(R1, #[.slice none 0 0, .int .i64 2], 66)] [] from HL1.out.put 0 rfl g2 o2 (fun _ h => nomatch h) (fun _ h => nomatch h) rfl); clear g2 o2))
    exact bodyPost_ret (results_cell_row (p := 4) (ty := 66) (by kernel_rfl) _ _ (R1) 66 _ (0, 0) _ rfl (HL2.out.get (.head _)) Try.underlying66 rfl (by kernel_rfl)) rfl ⟨none, 0, by rw [HE.out, HC.out]; rfl, by rw [HE.out]; exact .inl rfl, HL2.out.below⟩
  have hd : decide (8000 < (s.size : Int)) = false := decide_eq_false (by omega)
  rw [hd] at HL
  have hC3 : C = if there then sizeC s.size S else 6 := hC.symm.trans (if_neg hbig)
  have HSF := fun U => Lib.hid (sizeFault_any s S U (by omega))
  clear hC
  go_enter Try.func45, Try.ntmps45
  go_wp2_with (first
    | (refine wpList_alloc_h rfl 66 rfl (.agg #[.slice none 0 0, .int .i64 0]) (by kernel_rfl) #[.slice none 0 0, .int .i64 0] rfl ?_; intro w1 R1 e1 g1 b1; have HL1 := Lib.hid (show Lg w w1 [(R1, #[.slice none 0 0, .int .i64 0], 66)] [] from (Lg.first w).box e1 g1 b1); clear g1 b1 e1))
  refine ((HL _).out).mono ?_
  rintro e w' ⟨rfl, rfl⟩
  go_wp2_with fail
  refine (defs_any _).mono ?_
  rintro e w2 ⟨G, rfl, hT, h⟩
  obtain ⟨L2, e2⟩ : ∃ x, w1.heap.size = x := ⟨_, rfl⟩
  obtain ⟨H2, f2⟩ : ∃ x, w2.heap.size = x := ⟨_, rfl⟩
  have qL2_R1 : R1 < L2 := Nat.lt_of_lt_of_eq (HL1.out.lt (.head _)) e2
  have qH2_L2 : L2 ≤ H2 := (by rw [← e2, ← f2]; exact h.size)
  have HL2 := Lib.hid (show Lg w w2 [(R1, #[.slice none 0 0, .int .i64 0], 66)] [(L2, H2, fun W => RsNew fdL 3 77 L2 H2 W (aD L2 p) F)] from HL1.out.made e2 f2 h (by rw [← e2, ← f2]; exact (HN.out _ _ _ _ _ hT (Nat.le_refl _) hT.hi).solid))
  have HT2 := Lib.hid (show TabAt L2 G w2 from by rw [← e2]; exact hT)
  clear h hT e2 f2
  go_wp2_with fail
  refine ((HRow _ _ _ HT2.out).out).mono ?_
  rintro e w3 ⟨rfl, h⟩
  have HL3 := Lib.hid (show Lg w w3 [(R1, #[.slice none 0 0, .int .i64 0], 66)] [(L2, H2, fun W => RsNew fdL 3 77 L2 H2 W (aD L2 p) F)] from HL2.out.kept h)
  clear h
  rcases there with _ | _
  · have HC := Lib.hid (show C = 6 from hC3)
    have HE := Lib.hid (hE0 (by rw [HC.out]; decide))
    clear hC3 hE0 hE1 hSz hSn hIn HSF
    go_wp2_with (first
      | (refine wpList_alloc_h rfl 70 rfl (.agg #[.int .i64 0, .int .i64 0, .int .i64 0, .slice none 0 0]) (by kernel_rfl) #[.int .i64 0, .int .i64 0, .int .i64 0, .slice none 0 0] rfl ?_; intro w4 R4 e4 g4 b4; have qR4_R1 : R1 < R4 := Nat.lt_of_lt_of_eq (HL3.out.lt (.head _)) e4; have qR4_H2 : H2 ≤ R4 := Nat.le_trans (HL3.out.hi (.head _)).2 (Nat.le_of_eq e4); have HL4 := Lib.hid (show Lg w w4 [(R4, #[.int .i64 0, .int .i64 0, .int .i64 0, .slice none 0 0], 70), (R1, #[.slice none 0 0, .int .i64 0], 66)] [(L2, H2, fun W => RsNew fdL 3 77 L2 H2 W (aD L2 p) F)] from HL3.out.box e4 g4 b4); clear g4 b4 e4)
      | (refine wpList_put_at rfl 70 (.tmp 5) (.tmp 18) rfl rfl (R4) 0 rfl (.agg #[.int .i64 P, .int .i64 S, .int .i64 R, .slice (aD L2 p) N N]) rfl #[.int .i64 P, .int .i64 S, .int .i64 R, .slice (aD L2 p) N N] rfl 70 #[.int .i64 0, .int .i64 0, .int .i64 0, .slice none 0 0] #[.int .i64 P, .int .i64 S, .int .i64 R, .slice (aD L2 p) N N] (HL4.out.get (.head _)) (by kernel_rfl) (by kernel_rfl) (by kernel_rfl) (by kernel_rfl) ?_; intro w5 g5 o5; have HL5 := Lib.hid (show Lg w w5 [(R4, #[.int .i64 P, .int .i64 S, .int .i64 R, .slice (aD L2 p) N N], 70), (R1, #[.slice none 0 0, .int .i64 0], 66)] [(L2, H2, fun W => RsNew fdL 3 77 L2 H2 W (aD L2 p) F)] from HL4.out.put 0 rfl g5 o5 (List.forall_mem_cons.2 ⟨Nat.ne_of_lt qR4_R1, (fun _ h => nomatch h)⟩) (List.forall_mem_cons.2 ⟨.inl qR4_H2, (fun _ h => nomatch h)⟩) rfl); clear g5 o5)
      | (refine wpList_put_at rfl 66 (.tmp 4) (.tmp 22) rfl rfl (R1) 0 rfl (.agg #[.slice none 0 0, .int .i64 6]) rfl #[.slice none 0 0, .int .i64 6] rfl 66 #[.slice none 0 0, .int .i64 0] #[.slice none 0 0, .int .i64 6] (HL5.out.get (.tail _ (.head _))) (by kernel_rfl) (by kernel_rfl) (by kernel_rfl) (by kernel_rfl) ?_; intro w6 g6 o6; have HL6 := Lib.hid (show Lg w w6 [(R4, #[.int .i64 P, .int .i64 S, .int .i64 R, .slice (aD L2 p) N N], 70), (R1, #[.slice none 0 0, .int .i64 6], 66)] [(L2, H2, fun W => RsNew fdL 3 77 L2 H2 W (aD L2 p) F)] from HL5.out.put 1 rfl g6 o6 (List.forall_mem_cons.2 ⟨Nat.ne_of_gt qR4_R1, (fun _ h => nomatch h)⟩) (List.forall_mem_cons.2 ⟨.inr qL2_R1, (fun _ h => nomatch h)⟩) rfl); clear g6 o6))
    exact bodyPost_ret (results_cell_row (p := 4) (ty := 66) (by kernel_rfl) _ _ (R1) 66 _ (0, 0) _ rfl (HL6.out.get (.tail _ (.head _))) Try.underlying66 rfl (by kernel_rfl)) rfl ⟨none, 0, by rw [HE.out, HC.out]; rfl, by rw [HE.out]; exact .inl rfl, HL6.out.below⟩
  have hC4 : sizeC s.size S = C := hC3.symm
  rw [hC4] at HSF
  go_wp2_with (first
    | (refine wpList_alloc_h rfl 70 rfl (.agg #[.int .i64 0, .int .i64 0, .int .i64 0, .slice none 0 0]) (by kernel_rfl) #[.int .i64 0, .int .i64 0, .int .i64 0, .slice none 0 0] rfl ?_; intro w4 R4 e4 g4 b4; have qR4_R1 : R1 < R4 := Nat.lt_of_lt_of_eq (HL3.out.lt (.head _)) e4; have qR4_H2 : H2 ≤ R4 := Nat.le_trans (HL3.out.hi (.head _)).2 (Nat.le_of_eq e4); have HL4 := Lib.hid (show Lg w w4 [(R4, #[.int .i64 0, .int .i64 0, .int .i64 0, .slice none 0 0], 70), (R1, #[.slice none 0 0, .int .i64 0], 66)] [(L2, H2, fun W => RsNew fdL 3 77 L2 H2 W (aD L2 p) F)] from HL3.out.box e4 g4 b4); clear g4 b4 e4)
    | (refine wpList_put_at rfl 70 (.tmp 5) (.tmp 18) rfl rfl (R4) 0 rfl (.agg #[.int .i64 P, .int .i64 S, .int .i64 R, .slice (aD L2 p) N N]) rfl #[.int .i64 P, .int .i64 S, .int .i64 R, .slice (aD L2 p) N N] rfl 70 #[.int .i64 0, .int .i64 0, .int .i64 0, .slice none 0 0] #[.int .i64 P, .int .i64 S, .int .i64 R, .slice (aD L2 p) N N] (HL4.out.get (.head _)) (by kernel_rfl) (by kernel_rfl) (by kernel_rfl) (by kernel_rfl) ?_; intro w5 g5 o5; have HL5 := Lib.hid (show Lg w w5 [(R4, #[.int .i64 P, .int .i64 S, .int .i64 R, .slice (aD L2 p) N N], 70), (R1, #[.slice none 0 0, .int .i64 0], 66)] [(L2, H2, fun W => RsNew fdL 3 77 L2 H2 W (aD L2 p) F)] from HL4.out.put 0 rfl g5 o5 (List.forall_mem_cons.2 ⟨Nat.ne_of_lt qR4_R1, (fun _ h => nomatch h)⟩) (List.forall_mem_cons.2 ⟨.inl qR4_H2, (fun _ h => nomatch h)⟩) rfl); clear g5 o5)
    | (refine wpList_load_one rfl 2 (.tmp 24) rfl (R4) 1 rfl 70 #[.int .i64 P, .int .i64 S, .int .i64 R, .slice (aD L2 p) N N] (0, 0) (HL5.out.get (.head _)) (.int .i64 S) rfl _ Try.underlying2 rfl (by kernel_rfl) ?_))
  refine ((HSF _).out).mono ?_
  rintro e w' ⟨rfl, rfl⟩
  by_cases hC0 : C = 0
  · have HE := Lib.hid (hE1 hC0)
    have HC := Lib.hid hC0
    have hq : (C != 0) = false := by simp [hC0]
    clear hC0 hC3 hC4 hE0 hE1 hSz hSn hIn HSF
    go_wp2_with (first
      | (refine wpList_load_one rfl 68 (.tmp 31) rfl (R4) 3 rfl 70 #[.int .i64 P, .int .i64 S, .int .i64 R, .slice (aD L2 p) N N] (0, 0) (HL5.out.get (.head _)) (.slice (aD L2 p) N N) rfl _ Try.underlying68 rfl (by kernel_rfl) ?_))
    obtain ⟨wd, ewd⟩ : ∃ x, w5 = x := ⟨_, rfl⟩
    have HFl := Lib.hid (HL5.out.at (.head _)).ins
    have HRR0 := Lib.hid (HL5.out.get (.tail _ (.head _)))
    have HBp := Lib.hid HL5.out.below
    have geRR := HL5.out.ge (.tail _ (.head _))
    have lRR := HL5.out.lt (.tail _ (.head _))
    rw [ewd] at HFl HRR0 HBp lRR ⊢
    clear HL1 HL2 HL3 HL4 HL5
    clear ewd
    go_loopw [8, 34] (fun v i wr => ∃ (k : Nat) (V : Value), i = .int .i64 (k : Int) ∧ V = v ∧ k ≤ N ∧ OwnIn vlL 2 142 wd.heap.size wr.heap.size wr V (decF s (F.take k)) ∧ Below wd.heap.size wd wr) (fun _ i _ => N - (intOf i).toNat)
    case atStart => exact ⟨0, _, rfl, rfl, by omega, OwnIn.none _, Below.refl _ _⟩
    case round =>
      obtain ⟨k, V, rfl, rfl, hk, hown, hb⟩ := hrel
      have HO := Lib.hid hown
      clear hown
      have HRR := Lib.hid ((hb.block _ lRR).trans HRR0.out)
      by_cases hkn : k < N
      · have hi1 : (0 : Int) ≤ (k : Int) := by omega
        have hi2 : (k : Int) < (N : Int) := by omega
        have hkF : k < F.length := by have := HNl.out; omega
        obtain ⟨b, o, FA, hlt, hc⟩ := HFl.out.at (by omega)
        rw [FA]
        have lf : b < wr.heap.size := Nat.lt_of_lt_of_le hlt hb.size
        have HCf := Lib.hid (fun j v hv => (hb.cell (p := ⟨b, _, none⟩) hlt).trans (hc k _ (fdAt_some hkF) j v hv))
        have HX := Lib.hid (decF_take (s := s) hkF)
        have hlen5 : (decF s (F.take k)).length ≤ 5 := by rw [decF_len, List.length_take]; omega
        have HG := fun W => Lib.hid (implFieldGet_any s (fdAt F k).a (fdAt F k).w (fdAt F k).g W hs)
        clear hc
        unfold tellF at HX
        generalize decF s (F.take k) = L at *
        generalize fdAt F k = x at *
        obtain ⟨fa, fw, fg⟩ := x
        unfold fdL at HCf
        dsimp only at *
        generalize fgetI s fa fw fg = pr at *
        obtain ⟨tk, tn⟩ := pr
        unfold fdV vlV at HG
        dsimp only at *
        obtain ⟨LO, eLO⟩ : ∃ x, wd.heap.size = x := ⟨_, rfl⟩
        obtain ⟨HI1, eHI⟩ : ∃ x, wr.heap.size = x := ⟨_, rfl⟩
        have HL1 := Lib.hid (show Lg wd wr [] [(LO, HI1, fun W => OwnIn vlL 2 142 LO HI1 W V L)] from (by
          subst eLO eHI
          exact (⟨hb, fun r hr => (by cases hr), fun n hn => (by cases hn)⟩ : Lg wd wr [] []).addNew HO.out.solid (Nat.le_refl _) hb.size (Nat.le_refl _)))
        have HLO := Lib.hid eLO
        clear eLO eHI HO
        go_wp2_with (first
          | (refine wpList_load_cells rfl 77 (.tmp 36) rfl b (o + k * 3) rfl [.int .i64 fa, .int .i64 fw, .bool fg] HCf.out _ Try.underlying77 rfl (by kernel_rfl) ?_)
          | (refine wpList_alloc_h rfl 77 rfl (.agg #[.int .i64 0, .int .i64 0, .bool false]) (by kernel_rfl) #[.int .i64 0, .int .i64 0, .bool false] rfl ?_; intro w2 R2 e2 g2 b2; have qR2_HI1 : HI1 ≤ R2 := Nat.le_trans (HL1.out.hi (.head _)).2 (Nat.le_of_eq e2); have HL2 := Lib.hid (show Lg wd w2 [(R2, #[.int .i64 0, .int .i64 0, .bool false], 77)] [(LO, HI1, fun W => OwnIn vlL 2 142 LO HI1 W V L)] from HL1.out.box e2 g2 b2); clear g2 b2 e2)
          | (refine wpList_put_at rfl 77 (.tmp 10) (.tmp 37) rfl rfl (R2) 0 rfl (.agg #[.int .i64 fa, .int .i64 fw, .bool fg]) rfl #[.int .i64 fa, .int .i64 fw, .bool fg] rfl 77 #[.int .i64 0, .int .i64 0, .bool false] #[.int .i64 fa, .int .i64 fw, .bool fg] (HL2.out.get (.head _)) (by kernel_rfl) (by kernel_rfl) (by kernel_rfl) (by kernel_rfl) ?_; intro w3 g3 o3; have HL3 := Lib.hid (show Lg wd w3 [(R2, #[.int .i64 fa, .int .i64 fw, .bool fg], 77)] [(LO, HI1, fun W => OwnIn vlL 2 142 LO HI1 W V L)] from HL2.out.put 0 rfl g3 o3 (fun _ h => nomatch h) (List.forall_mem_cons.2 ⟨.inl qR2_HI1, (fun _ h => nomatch h)⟩) rfl); clear g3 o3)
          | (refine wpList_load_at rfl 77 (.tmp 10) rfl (R2) 0 rfl 77 #[.int .i64 fa, .int .i64 fw, .bool fg] (0, 0) (HL3.out.get (.head _)) [.int .i64 fa, .int .i64 fw, .bool fg] rfl _ Try.underlying77 rfl (by kernel_rfl) ?_))
        refine ((HG _).out).mono ?_
        rintro e w4 ⟨rfl, h⟩
        have HL4 := Lib.hid (show Lg wd w4 [(R2, #[.int .i64 fa, .int .i64 fw, .bool fg], 77)] [(LO, HI1, fun W => OwnIn vlL 2 142 LO HI1 W V L)] from HL3.out.kept h)
        clear h
        go_wp2_with (first
          | (refine wpList_lit1 vlL_len rfl 61 (.tmp 41) rfl 142 i0 Try.underlying61 HI0.out _ hz0 hz1 ⟨tk, tn⟩ (.agg #[.int .i64 tk, .int .i64 tn]) rfl rfl (by kernel_rfl) (by decide) (by decide) ?_; intro w20 R20 e20 hin20 b20; have HR20 := Lib.hid hin20; have HL20 := Lib.hid (HL4.out.kept b20); clear e20 hin20 b20)
          | (at_builtin; refine wpList_append_rs vlL_len vlL_one rfl (.tmp 38) (.tmp 42) 61 rfl 142 i0 _ 16 Try.underlying61 HI0.out hz0 hz1 hz2 (by kernel_rfl) (by decide) LO HI1 V L rfl (HL20.out.at (.head _)) _ 1 [⟨tk, tn⟩] rfl HR20.out (by unfold maxLen; show _ + 1 ≤ _; omega) (by show (_ + 1) * 16 ≤ _; omega) (Nat.le_trans (HL20.out.hi (.head _)).1 (HL20.out.hi (.head _)).2) ?_; intro v21 w21 hown21 ho21; have HO21 := Lib.hid hown21; have HU21 := Lib.hid ho21; clear hown21 ho21))
        go_roundw
        case rel =>
          refine ⟨k + 1, _, by go_num, rfl, by omega, ?_, HU21.out.below HL20.out.below (HL20.out.lo (.head _)) HL20.out.below.size⟩
          have h := HO21.out
          rw [HX.out]
          have e := HLO.out
          subst e
          exact h
        case measure => simp [intOf]; omega
      · have HVv := Lib.hid (show F.take k = F from List.take_of_length_le (by have := HNl.out; omega))
        obtain ⟨a', cap', rfl, _, hn⟩ := HO.out.new vlL_len
        rw [HVv.out] at hn ⊢
        have HNn := Lib.hid hn
        have hbs := hb.size
        clear HO hn
        go_wp2_with (first
          | (refine wpList_put_at rfl 66 (.tmp 4) (.tmp 46) rfl rfl (R1) 0 rfl (.agg #[.slice a' (decF s F).length cap', .int .i64 0]) rfl #[.slice a' (decF s F).length cap', .int .i64 0] rfl 66 #[.slice none 0 0, .int .i64 0] #[.slice a' (decF s F).length cap', .int .i64 0] HRR.out (by kernel_rfl) (by kernel_rfl) (by kernel_rfl) (by kernel_rfl) ?_; intro wf gf of; have HGf := Lib.hid gf; have HOf := Lib.hid of; clear gf of))
        exact bodyPost_ret (results_cell_row (p := 4) (ty := 66) (by kernel_rfl) _ _ (R1) 66 _ (0, 0) _ rfl HGf.out Try.underlying66 rfl (by kernel_rfl)) rfl ⟨a', cap', by rw [HE.out, HC.out], by rw [HE.out]; exact ((HNn.out.out HOf.out (.inr (Nat.succ_le_of_lt lRR))).wide HBp.out.size HOf.out.size), HOf.out.below (HBp.out.trans (hb.mono HBp.out.size)) geRR (Nat.le_trans HBp.out.size hbs)⟩
  · have hq : (C != 0) = true := by simpa using hC0
    have HE := Lib.hid (hE0 hC0)
    clear hC3 hC4 hE0 hE1 hSz hSn hIn HSF
    go_wp2_with (first
      | (refine wpList_put_at rfl 66 (.tmp 4) (.tmp 30) rfl rfl (R1) 0 rfl (.agg #[.slice none 0 0, .int .i64 C]) rfl #[.slice none 0 0, .int .i64 C] rfl 66 #[.slice none 0 0, .int .i64 0] #[.slice none 0 0, .int .i64 C] (HL5.out.get (.tail _ (.head _))) (by kernel_rfl) (by kernel_rfl) (by kernel_rfl) (by kernel_rfl) ?_; intro w6 g6 o6; have HL6 := Lib.hid (show Lg w w6 [(R4, #[.int .i64 P, .int .i64 S, .int .i64 R, .slice (aD L2 p) N N], 70), (R1, #[.slice none 0 0, .int .i64 C], 66)] [(L2, H2, fun W => RsNew fdL 3 77 L2 H2 W (aD L2 p) F)] from HL5.out.put 1 rfl g6 o6 (List.forall_mem_cons.2 ⟨Nat.ne_of_gt qR4_R1, (fun _ h => nomatch h)⟩) (List.forall_mem_cons.2 ⟨.inr qL2_R1, (fun _ h => nomatch h)⟩) rfl); clear g6 o6))
    exact bodyPost_ret (results_cell_row (p := 4) (ty := 66) (by kernel_rfl) _ _ (R1) 66 _ (0, 0) _ rfl (HL6.out.get (.tail _ (.head _))) Try.underlying66 rfl (by kernel_rfl)) rfl ⟨none, 0, by rw [HE.out]; rfl, by rw [HE.out]; exact .inl rfl, HL6.out.below⟩
set_option maxRecDepth 100000 in
set_option maxHeartbeats 8000000 in
theorem specDecode_any (p : Int) (s : ByteArray) (w : World) (hs : s.size ≤ maxLen) :
    Calls Try.prog 46 #[.int .i64 p, .string s] w (DecOut p s w) := by
  obtain ⟨i0, hi, hz0, hz1, hz2⟩ := info_parts Dec.info
  have HI0 := Lib.hid hi
  clear hi
  unfold maxLen at hs
  have hF5 := defD_len p
  have hIn := @defD_in p
  have hS := defD_s p
  have HD := fun W => Lib.hid (specDefOf_any p W)
  unfold DefOut at HD
  unfold DecOut
  generalize defD p = d at *
  obtain ⟨P, S, R, F⟩ := d
  dsimp only at *
  obtain ⟨there, hth⟩ : ∃ t, decide (ixD p < 6) = t := ⟨_, rfl⟩
  rw [hth]
  have hSz : there = true → S = 8 ∨ S = 14 := fun h => hS.1 (of_decide_eq_true (hth.trans h))
  have hSn : there = false → S = 0 := fun h => (hS.2 (of_decide_eq_false (hth.trans h))).1
  clear hth hS
  obtain ⟨C, hC⟩ : ∃ C, decC there S s = C := ⟨_, rfl⟩
  obtain ⟨E, hE⟩ : ∃ E, decV there S F s = E := ⟨_, rfl⟩
  rw [hC, hE]
  have hE0 : C ≠ 0 → E = [] := fun h => hE.symm.trans (if_neg (by rw [hC]; exact h))
  have hE1 : C = 0 → E = decF s F := fun h => hE.symm.trans (if_pos (by rw [hC]; exact h))
  clear hE
  obtain ⟨N, hN⟩ : ∃ N, F.length = N := ⟨_, rfl⟩
  have HNl := Lib.hid hN
  rw [hN] at HD hF5 hIn
  clear hN
  by_cases hbig : 8000 < s.size
  · have hd : decide (8000 < (s.size : Int)) = true := decide_eq_true (by omega)
    have hC2 : C = 2 := hC.symm.trans (if_pos hbig)
    have HC := Lib.hid hC2
    have HE := Lib.hid (hE0 (by rw [hC2]; decide))
    clear hC hC2 hE0 hE1 hSz hSn hIn HD
    go_enter Try.func46, Try.ntmps46
    go_wp2_with (first
      | (refine wpList_alloc_h rfl 66 rfl (.agg #[.slice none 0 0, .int .i64 0]) (by kernel_rfl) #[.slice none 0 0, .int .i64 0] rfl ?_; intro w1 R1 e1 g1 b1; have HL1 := Lib.hid (show Lg w w1 [(R1, #[.slice none 0 0, .int .i64 0], 66)] [] from (Lg.first w).box e1 g1 b1); clear g1 b1 e1)
      | (refine wpList_put_at rfl 66 (.tmp 4) (.tmp 11) rfl rfl (R1) 0 rfl (.agg #[.slice none 0 0, .int .i64 2]) rfl #[.slice none 0 0, .int .i64 2] rfl 66 #[.slice none 0 0, .int .i64 0] #[.slice none 0 0, .int .i64 2] (HL1.out.get (.head _)) (by kernel_rfl) (by kernel_rfl) (by kernel_rfl) (by kernel_rfl) ?_; intro w2 g2 o2; have HL2 := Lib.hid (show Lg w w2 [(R1, #[.slice none 0 0, .int .i64 2], 66)] [] from HL1.out.put 0 rfl g2 o2 (fun _ h => nomatch h) (fun _ h => nomatch h) rfl); clear g2 o2))
    exact bodyPost_ret (results_cell_row (p := 4) (ty := 66) (by kernel_rfl) _ _ (R1) 66 _ (0, 0) _ rfl (HL2.out.get (.head _)) Try.underlying66 rfl (by kernel_rfl)) rfl ⟨none, 0, by rw [HE.out, HC.out]; rfl, by rw [HE.out]; exact .inl rfl, HL2.out.below⟩
  have hd : decide (8000 < (s.size : Int)) = false := decide_eq_false (by omega)
  have hC3 : C = if there then sizeC s.size S else 6 := hC.symm.trans (if_neg hbig)
  clear hC
  go_enter Try.func46, Try.ntmps46
  go_wp2_with (first
    | (refine wpList_alloc_h rfl 66 rfl (.agg #[.slice none 0 0, .int .i64 0]) (by kernel_rfl) #[.slice none 0 0, .int .i64 0] rfl ?_; intro w1 R1 e1 g1 b1; have HL1 := Lib.hid (show Lg w w1 [(R1, #[.slice none 0 0, .int .i64 0], 66)] [] from (Lg.first w).box e1 g1 b1); clear g1 b1 e1))
  refine ((HD _).out).mono ?_
  rintro e w2 ⟨a, rfl, hn, h⟩
  obtain ⟨L2, e2⟩ : ∃ x, w1.heap.size = x := ⟨_, rfl⟩
  obtain ⟨H2, f2⟩ : ∃ x, w2.heap.size = x := ⟨_, rfl⟩
  have qL2_R1 : R1 < L2 := Nat.lt_of_lt_of_eq (HL1.out.lt (.head _)) e2
  have qH2_L2 : L2 ≤ H2 := (by rw [← e2, ← f2]; exact h.size)
  have HL2 := Lib.hid (show Lg w w2 [(R1, #[.slice none 0 0, .int .i64 0], 66)] [(L2, H2, fun W => RsNew fdL 3 77 L2 H2 W a F)] from HL1.out.made e2 f2 h (by rw [← e2, ← f2]; exact hn.solid))
  clear h hn e2 f2
  rcases there with _ | _
  · have HC := Lib.hid (show C = 6 from hC3)
    have HE := Lib.hid (hE0 (by rw [HC.out]; decide))
    have hs0 := hSn rfl
    have q0 : (S == 0) = true := by rw [hs0]; rfl
    clear hs0 hC3 hE0 hE1 hSz hSn hIn
    go_wp2_with (first
      | (refine wpList_alloc_h rfl 70 rfl (.agg #[.int .i64 0, .int .i64 0, .int .i64 0, .slice none 0 0]) (by kernel_rfl) #[.int .i64 0, .int .i64 0, .int .i64 0, .slice none 0 0] rfl ?_; intro w3 R3 e3 g3 b3; have qR3_R1 : R1 < R3 := Nat.lt_of_lt_of_eq (HL2.out.lt (.head _)) e3; have qR3_H2 : H2 ≤ R3 := Nat.le_trans (HL2.out.hi (.head _)).2 (Nat.le_of_eq e3); have HL3 := Lib.hid (show Lg w w3 [(R3, #[.int .i64 0, .int .i64 0, .int .i64 0, .slice none 0 0], 70), (R1, #[.slice none 0 0, .int .i64 0], 66)] [(L2, H2, fun W => RsNew fdL 3 77 L2 H2 W a F)] from HL2.out.box e3 g3 b3); clear g3 b3 e3)
      | (refine wpList_put_at rfl 70 (.tmp 5) (.tmp 13) rfl rfl (R3) 0 rfl (.agg #[.int .i64 P, .int .i64 S, .int .i64 R, .slice a N N]) rfl #[.int .i64 P, .int .i64 S, .int .i64 R, .slice a N N] rfl 70 #[.int .i64 0, .int .i64 0, .int .i64 0, .slice none 0 0] #[.int .i64 P, .int .i64 S, .int .i64 R, .slice a N N] (HL3.out.get (.head _)) (by kernel_rfl) (by kernel_rfl) (by kernel_rfl) (by kernel_rfl) ?_; intro w4 g4 o4; have HL4 := Lib.hid (show Lg w w4 [(R3, #[.int .i64 P, .int .i64 S, .int .i64 R, .slice a N N], 70), (R1, #[.slice none 0 0, .int .i64 0], 66)] [(L2, H2, fun W => RsNew fdL 3 77 L2 H2 W a F)] from HL3.out.put 0 rfl g4 o4 (List.forall_mem_cons.2 ⟨Nat.ne_of_lt qR3_R1, (fun _ h => nomatch h)⟩) (List.forall_mem_cons.2 ⟨.inl qR3_H2, (fun _ h => nomatch h)⟩) rfl); clear g4 o4)
      | (refine wpList_load_one rfl 2 (.tmp 15) rfl (R3) 1 rfl 70 #[.int .i64 P, .int .i64 S, .int .i64 R, .slice a N N] (0, 0) (HL4.out.get (.head _)) (.int .i64 S) rfl _ Try.underlying2 rfl (by kernel_rfl) ?_)
      | (refine wpList_put_at rfl 66 (.tmp 4) (.tmp 18) rfl rfl (R1) 0 rfl (.agg #[.slice none 0 0, .int .i64 6]) rfl #[.slice none 0 0, .int .i64 6] rfl 66 #[.slice none 0 0, .int .i64 0] #[.slice none 0 0, .int .i64 6] (HL4.out.get (.tail _ (.head _))) (by kernel_rfl) (by kernel_rfl) (by kernel_rfl) (by kernel_rfl) ?_; intro w5 g5 o5; have HL5 := Lib.hid (show Lg w w5 [(R3, #[.int .i64 P, .int .i64 S, .int .i64 R, .slice a N N], 70), (R1, #[.slice none 0 0, .int .i64 6], 66)] [(L2, H2, fun W => RsNew fdL 3 77 L2 H2 W a F)] from HL4.out.put 1 rfl g5 o5 (List.forall_mem_cons.2 ⟨Nat.ne_of_gt qR3_R1, (fun _ h => nomatch h)⟩) (List.forall_mem_cons.2 ⟨.inr qL2_R1, (fun _ h => nomatch h)⟩) rfl); clear g5 o5))
    exact bodyPost_ret (results_cell_row (p := 4) (ty := 66) (by kernel_rfl) _ _ (R1) 66 _ (0, 0) _ rfl (HL5.out.get (.tail _ (.head _))) Try.underlying66 rfl (by kernel_rfl)) rfl ⟨none, 0, by rw [HE.out, HC.out]; rfl, by rw [HE.out]; exact .inl rfl, HL5.out.below⟩
  have hC4 : C = sizeC s.size S := hC3
  have q0 : (S == 0) = false := by rcases hSz rfl with h | h <;> rw [h] <;> rfl
  unfold sizeC at hC4
  by_cases h1 : (s.size : Int) < S
  · rw [if_pos h1] at hC4
    have HC := Lib.hid hC4
    have HE := Lib.hid (hE0 (by rw [hC4]; decide))
    have q1 : decide ((s.size : Int) < S) = true := decide_eq_true h1
    clear hC3 hC4 hE0 hE1 hSz hSn hIn h1
    go_wp2_with (first
      | (refine wpList_alloc_h rfl 70 rfl (.agg #[.int .i64 0, .int .i64 0, .int .i64 0, .slice none 0 0]) (by kernel_rfl) #[.int .i64 0, .int .i64 0, .int .i64 0, .slice none 0 0] rfl ?_; intro w3 R3 e3 g3 b3; have qR3_R1 : R1 < R3 := Nat.lt_of_lt_of_eq (HL2.out.lt (.head _)) e3; have qR3_H2 : H2 ≤ R3 := Nat.le_trans (HL2.out.hi (.head _)).2 (Nat.le_of_eq e3); have HL3 := Lib.hid (show Lg w w3 [(R3, #[.int .i64 0, .int .i64 0, .int .i64 0, .slice none 0 0], 70), (R1, #[.slice none 0 0, .int .i64 0], 66)] [(L2, H2, fun W => RsNew fdL 3 77 L2 H2 W a F)] from HL2.out.box e3 g3 b3); clear g3 b3 e3)
      | (refine wpList_put_at rfl 70 (.tmp 5) (.tmp 13) rfl rfl (R3) 0 rfl (.agg #[.int .i64 P, .int .i64 S, .int .i64 R, .slice a N N]) rfl #[.int .i64 P, .int .i64 S, .int .i64 R, .slice a N N] rfl 70 #[.int .i64 0, .int .i64 0, .int .i64 0, .slice none 0 0] #[.int .i64 P, .int .i64 S, .int .i64 R, .slice a N N] (HL3.out.get (.head _)) (by kernel_rfl) (by kernel_rfl) (by kernel_rfl) (by kernel_rfl) ?_; intro w4 g4 o4; have HL4 := Lib.hid (show Lg w w4 [(R3, #[.int .i64 P, .int .i64 S, .int .i64 R, .slice a N N], 70), (R1, #[.slice none 0 0, .int .i64 0], 66)] [(L2, H2, fun W => RsNew fdL 3 77 L2 H2 W a F)] from HL3.out.put 0 rfl g4 o4 (List.forall_mem_cons.2 ⟨Nat.ne_of_lt qR3_R1, (fun _ h => nomatch h)⟩) (List.forall_mem_cons.2 ⟨.inl qR3_H2, (fun _ h => nomatch h)⟩) rfl); clear g4 o4)
      | (refine wpList_load_one rfl 2 (.tmp 15) rfl (R3) 1 rfl 70 #[.int .i64 P, .int .i64 S, .int .i64 R, .slice a N N] (0, 0) (HL4.out.get (.head _)) (.int .i64 S) rfl _ Try.underlying2 rfl (by kernel_rfl) ?_)
      | (refine wpList_load_one rfl 2 (.tmp 22) rfl (R3) 1 rfl 70 #[.int .i64 P, .int .i64 S, .int .i64 R, .slice a N N] (0, 0) (HL4.out.get (.head _)) (.int .i64 S) rfl _ Try.underlying2 rfl (by kernel_rfl) ?_)
      | (refine wpList_put_at rfl 66 (.tmp 4) (.tmp 25) rfl rfl (R1) 0 rfl (.agg #[.slice none 0 0, .int .i64 4]) rfl #[.slice none 0 0, .int .i64 4] rfl 66 #[.slice none 0 0, .int .i64 0] #[.slice none 0 0, .int .i64 4] (HL4.out.get (.tail _ (.head _))) (by kernel_rfl) (by kernel_rfl) (by kernel_rfl) (by kernel_rfl) ?_; intro w5 g5 o5; have HL5 := Lib.hid (show Lg w w5 [(R3, #[.int .i64 P, .int .i64 S, .int .i64 R, .slice a N N], 70), (R1, #[.slice none 0 0, .int .i64 4], 66)] [(L2, H2, fun W => RsNew fdL 3 77 L2 H2 W a F)] from HL4.out.put 1 rfl g5 o5 (List.forall_mem_cons.2 ⟨Nat.ne_of_gt qR3_R1, (fun _ h => nomatch h)⟩) (List.forall_mem_cons.2 ⟨.inr qL2_R1, (fun _ h => nomatch h)⟩) rfl); clear g5 o5))
    exact bodyPost_ret (results_cell_row (p := 4) (ty := 66) (by kernel_rfl) _ _ (R1) 66 _ (0, 0) _ rfl (HL5.out.get (.tail _ (.head _))) Try.underlying66 rfl (by kernel_rfl)) rfl ⟨none, 0, by rw [HE.out, HC.out]; rfl, by rw [HE.out]; exact .inl rfl, HL5.out.below⟩
  rw [if_neg h1] at hC4
  have q1 : decide ((s.size : Int) < S) = false := decide_eq_false h1
  by_cases h2 : S < (s.size : Int)
  · rw [if_pos h2] at hC4
    have HC := Lib.hid hC4
    have HE := Lib.hid (hE0 (by rw [hC4]; decide))
    have q2 : decide (S < (s.size : Int)) = true := decide_eq_true h2
    clear hC3 hC4 hE0 hE1 hSz hSn hIn h1 h2
    go_wp2_with (first
      | (refine wpList_alloc_h rfl 70 rfl (.agg #[.int .i64 0, .int .i64 0, .int .i64 0, .slice none 0 0]) (by kernel_rfl) #[.int .i64 0, .int .i64 0, .int .i64 0, .slice none 0 0] rfl ?_; intro w3 R3 e3 g3 b3; have qR3_R1 : R1 < R3 := Nat.lt_of_lt_of_eq (HL2.out.lt (.head _)) e3; have qR3_H2 : H2 ≤ R3 := Nat.le_trans (HL2.out.hi (.head _)).2 (Nat.le_of_eq e3); have HL3 := Lib.hid (show Lg w w3 [(R3, #[.int .i64 0, .int .i64 0, .int .i64 0, .slice none 0 0], 70), (R1, #[.slice none 0 0, .int .i64 0], 66)] [(L2, H2, fun W => RsNew fdL 3 77 L2 H2 W a F)] from HL2.out.box e3 g3 b3); clear g3 b3 e3)
      | (refine wpList_put_at rfl 70 (.tmp 5) (.tmp 13) rfl rfl (R3) 0 rfl (.agg #[.int .i64 P, .int .i64 S, .int .i64 R, .slice a N N]) rfl #[.int .i64 P, .int .i64 S, .int .i64 R, .slice a N N] rfl 70 #[.int .i64 0, .int .i64 0, .int .i64 0, .slice none 0 0] #[.int .i64 P, .int .i64 S, .int .i64 R, .slice a N N] (HL3.out.get (.head _)) (by kernel_rfl) (by kernel_rfl) (by kernel_rfl) (by kernel_rfl) ?_; intro w4 g4 o4; have HL4 := Lib.hid (show Lg w w4 [(R3, #[.int .i64 P, .int .i64 S, .int .i64 R, .slice a N N], 70), (R1, #[.slice none 0 0, .int .i64 0], 66)] [(L2, H2, fun W => RsNew fdL 3 77 L2 H2 W a F)] from HL3.out.put 0 rfl g4 o4 (List.forall_mem_cons.2 ⟨Nat.ne_of_lt qR3_R1, (fun _ h => nomatch h)⟩) (List.forall_mem_cons.2 ⟨.inl qR3_H2, (fun _ h => nomatch h)⟩) rfl); clear g4 o4)
      | (refine wpList_load_one rfl 2 (.tmp 15) rfl (R3) 1 rfl 70 #[.int .i64 P, .int .i64 S, .int .i64 R, .slice a N N] (0, 0) (HL4.out.get (.head _)) (.int .i64 S) rfl _ Try.underlying2 rfl (by kernel_rfl) ?_)
      | (refine wpList_load_one rfl 2 (.tmp 22) rfl (R3) 1 rfl 70 #[.int .i64 P, .int .i64 S, .int .i64 R, .slice a N N] (0, 0) (HL4.out.get (.head _)) (.int .i64 S) rfl _ Try.underlying2 rfl (by kernel_rfl) ?_)
      | (refine wpList_load_one rfl 2 (.tmp 29) rfl (R3) 1 rfl 70 #[.int .i64 P, .int .i64 S, .int .i64 R, .slice a N N] (0, 0) (HL4.out.get (.head _)) (.int .i64 S) rfl _ Try.underlying2 rfl (by kernel_rfl) ?_)
      | (refine wpList_put_at rfl 66 (.tmp 4) (.tmp 32) rfl rfl (R1) 0 rfl (.agg #[.slice none 0 0, .int .i64 2]) rfl #[.slice none 0 0, .int .i64 2] rfl 66 #[.slice none 0 0, .int .i64 0] #[.slice none 0 0, .int .i64 2] (HL4.out.get (.tail _ (.head _))) (by kernel_rfl) (by kernel_rfl) (by kernel_rfl) (by kernel_rfl) ?_; intro w5 g5 o5; have HL5 := Lib.hid (show Lg w w5 [(R3, #[.int .i64 P, .int .i64 S, .int .i64 R, .slice a N N], 70), (R1, #[.slice none 0 0, .int .i64 2], 66)] [(L2, H2, fun W => RsNew fdL 3 77 L2 H2 W a F)] from HL4.out.put 1 rfl g5 o5 (List.forall_mem_cons.2 ⟨Nat.ne_of_gt qR3_R1, (fun _ h => nomatch h)⟩) (List.forall_mem_cons.2 ⟨.inr qL2_R1, (fun _ h => nomatch h)⟩) rfl); clear g5 o5))
    exact bodyPost_ret (results_cell_row (p := 4) (ty := 66) (by kernel_rfl) _ _ (R1) 66 _ (0, 0) _ rfl (HL5.out.get (.tail _ (.head _))) Try.underlying66 rfl (by kernel_rfl)) rfl ⟨none, 0, by rw [HE.out, HC.out]; rfl, by rw [HE.out]; exact .inl rfl, HL5.out.below⟩
  rw [if_neg h2] at hC4
  have q2 : decide (S < (s.size : Int)) = false := decide_eq_false h2
  have HC := Lib.hid hC4
  have HE := Lib.hid (hE1 hC4)
  have HIn := Lib.hid (fun i h => hIn (i := i) h)
  have HSs := Lib.hid (show S = (s.size : Int) by omega)
  clear hC3 hC4 hE0 hE1 hSz hSn hIn h1 h2
  go_wp2_with (first
    | (refine wpList_alloc_h rfl 70 rfl (.agg #[.int .i64 0, .int .i64 0, .int .i64 0, .slice none 0 0]) (by kernel_rfl) #[.int .i64 0, .int .i64 0, .int .i64 0, .slice none 0 0] rfl ?_; intro w3 R3 e3 g3 b3; have qR3_R1 : R1 < R3 := Nat.lt_of_lt_of_eq (HL2.out.lt (.head _)) e3; have qR3_H2 : H2 ≤ R3 := Nat.le_trans (HL2.out.hi (.head _)).2 (Nat.le_of_eq e3); have HL3 := Lib.hid (show Lg w w3 [(R3, #[.int .i64 0, .int .i64 0, .int .i64 0, .slice none 0 0], 70), (R1, #[.slice none 0 0, .int .i64 0], 66)] [(L2, H2, fun W => RsNew fdL 3 77 L2 H2 W a F)] from HL2.out.box e3 g3 b3); clear g3 b3 e3)
    | (refine wpList_put_at rfl 70 (.tmp 5) (.tmp 13) rfl rfl (R3) 0 rfl (.agg #[.int .i64 P, .int .i64 S, .int .i64 R, .slice a N N]) rfl #[.int .i64 P, .int .i64 S, .int .i64 R, .slice a N N] rfl 70 #[.int .i64 0, .int .i64 0, .int .i64 0, .slice none 0 0] #[.int .i64 P, .int .i64 S, .int .i64 R, .slice a N N] (HL3.out.get (.head _)) (by kernel_rfl) (by kernel_rfl) (by kernel_rfl) (by kernel_rfl) ?_; intro w4 g4 o4; have HL4 := Lib.hid (show Lg w w4 [(R3, #[.int .i64 P, .int .i64 S, .int .i64 R, .slice a N N], 70), (R1, #[.slice none 0 0, .int .i64 0], 66)] [(L2, H2, fun W => RsNew fdL 3 77 L2 H2 W a F)] from HL3.out.put 0 rfl g4 o4 (List.forall_mem_cons.2 ⟨Nat.ne_of_lt qR3_R1, (fun _ h => nomatch h)⟩) (List.forall_mem_cons.2 ⟨.inl qR3_H2, (fun _ h => nomatch h)⟩) rfl); clear g4 o4)
    | (refine wpList_load_one rfl 2 (.tmp 15) rfl (R3) 1 rfl 70 #[.int .i64 P, .int .i64 S, .int .i64 R, .slice a N N] (0, 0) (HL4.out.get (.head _)) (.int .i64 S) rfl _ Try.underlying2 rfl (by kernel_rfl) ?_)
    | (refine wpList_load_one rfl 2 (.tmp 22) rfl (R3) 1 rfl 70 #[.int .i64 P, .int .i64 S, .int .i64 R, .slice a N N] (0, 0) (HL4.out.get (.head _)) (.int .i64 S) rfl _ Try.underlying2 rfl (by kernel_rfl) ?_)
    | (refine wpList_load_one rfl 2 (.tmp 29) rfl (R3) 1 rfl 70 #[.int .i64 P, .int .i64 S, .int .i64 R, .slice a N N] (0, 0) (HL4.out.get (.head _)) (.int .i64 S) rfl _ Try.underlying2 rfl (by kernel_rfl) ?_)
    | (refine wpList_lit0 vlL 2 rfl 61 rfl 142 i0 Try.underlying61 HI0.out ?_; intro wl0 G0 eg0 hown0 b0; subst eg0; have HO0 := Lib.hid (show OwnIn vlL 2 142 w4.heap.size wl0.heap.size wl0 _ (decF s (F.take 0)) from hown0); have HB0 := Lib.hid b0; clear hown0 b0))
  have HFl := Lib.hid (HL4.out.at (.head _)).ins
  have HRR0 := Lib.hid (HL4.out.get (.tail _ (.head _)))
  have HBp := Lib.hid HL4.out.below
  have geRR := HL4.out.ge (.tail _ (.head _))
  have HR50 := Lib.hid (HL4.out.get (.head _))
  have lRR := HL4.out.lt (.tail _ (.head _))
  clear HL1 HL2 HL3 HL4
  go_loopw [6, 7] (fun v i wr => ∃ (k : Nat) (V : Value), i = .int .i64 (k : Int) ∧ V = v ∧ k ≤ N ∧ OwnIn vlL 2 142 w4.heap.size wr.heap.size wr V (decF s (F.take k)) ∧ Below w4.heap.size w4 wr) (fun _ i _ => N - (intOf i).toNat)
  case atStart => exact ⟨0, _, rfl, rfl, by omega, HO0.out, HB0.out⟩
  case round =>
    obtain ⟨k, V, rfl, rfl, hk, hown, hb⟩ := hrel
    have HO := Lib.hid hown
    clear hown
    have HRR := Lib.hid ((hb.block _ lRR).trans HRR0.out)
    by_cases hkn : k < N
    · have hi1 : (0 : Int) ≤ (k : Int) := by omega
      have hi2 : (k : Int) < (N : Int) := by omega
      have hkF : k < F.length := by have := HNl.out; omega
      obtain ⟨b, o, rfl, hlt, hc⟩ := HFl.out.at (by omega)
      have HR5 := Lib.hid ((hb.block _ (Array.getElem?_eq_some_iff.1 HR50.out).1).trans HR50.out)
      have lf : b < wr.heap.size := Nat.lt_of_lt_of_le hlt hb.size
      have HCf := Lib.hid (fun j v hv => (hb.cell (p := ⟨b, _, none⟩) hlt).trans (hc k _ (fdAt_some hkF) j v hv))
      have HX := Lib.hid (decF_take (s := s) hkF)
      have hlen5 : (decF s (F.take k)).length ≤ 5 := by rw [decF_len, List.length_take]; omega
      have HG : ∀ W, Hid (Calls Try.prog 129 #[.string s, fdV (fdAt F k).a (fdAt F k).w (fdAt F k).g] W fun e W' => e = .returned (vlV (fgetI s (fdAt F k).a (fdAt F k).w (fdAt F k).g).1 (fgetI s (fdAt F k).a (fdAt F k).w (fdAt F k).g).2) ∧ Below W.heap.size W W') := fun W => Lib.hid (by
        obtain ⟨A, B, ha, hbw, q1, q2, q3, q4⟩ := HIn.out k hkn
        have hSs := HSs.out
        rw [ha, hbw]
        have h1 : hasB s (A : Int) (B : Int) = true := hasB_lit q1 q2 q3 (by omega)
        rw [fget_on (by omega) h1]
        exact l07Value_any s A B (fdAt F k).g W (by omega) q1 q2 q3 (by omega))
      clear hc
      unfold tellF at HX
      generalize decF s (F.take k) = L at *
      generalize fdAt F k = x at *
      obtain ⟨fa, fw, fg⟩ := x
      unfold fdL at HCf
      dsimp only at *
      generalize fgetI s fa fw fg = pr at *
      obtain ⟨tk, tn⟩ := pr
      unfold fdV vlV at HG
      dsimp only at *
      obtain ⟨LO, eLO⟩ : ∃ x, w4.heap.size = x := ⟨_, rfl⟩
      obtain ⟨HI1, eHI⟩ : ∃ x, wr.heap.size = x := ⟨_, rfl⟩
      have HL1 := Lib.hid (show Lg w4 wr [] [(LO, HI1, fun W => OwnIn vlL 2 142 LO HI1 W V L)] from (by
        subst eLO eHI
        exact (⟨hb, fun r hr => (by cases hr), fun n hn => (by cases hn)⟩ : Lg w4 wr [] []).addNew HO.out.solid (Nat.le_refl _) hb.size (Nat.le_refl _)))
      have HLO := Lib.hid eLO
      clear eLO eHI HO
      go_wp2_with (first
        | (refine wpList_load_one rfl 68 (.tmp 35) rfl (R3) 3 rfl 70 #[.int .i64 P, .int .i64 S, .int .i64 R, .slice (some ⟨b, o, none⟩) N N] (0, 0) HR5.out (.slice (some ⟨b, o, none⟩) N N) rfl _ Try.underlying68 rfl (by kernel_rfl) ?_)
        | (refine wpList_load_one rfl 68 (.tmp 43) rfl (R3) 3 rfl 70 #[.int .i64 P, .int .i64 S, .int .i64 R, .slice (some ⟨b, o, none⟩) N N] (0, 0) HR5.out (.slice (some ⟨b, o, none⟩) N N) rfl _ Try.underlying68 rfl (by kernel_rfl) ?_)
        | (refine wpList_load_cells rfl 77 (.tmp 46) rfl b (o + k * 3) rfl [.int .i64 fa, .int .i64 fw, .bool fg] HCf.out _ Try.underlying77 rfl (by kernel_rfl) ?_))
      refine ((HG _).out).mono ?_
      rintro e w2 ⟨rfl, h⟩
      have HL2 := Lib.hid (show Lg w4 w2 [] [(LO, HI1, fun W => OwnIn vlL 2 142 LO HI1 W V L)] from HL1.out.kept h)
      clear h
      go_wp2_with (first
        | (refine wpList_lit1 vlL_len rfl 61 (.tmp 48) rfl 142 i0 Try.underlying61 HI0.out _ hz0 hz1 ⟨tk, tn⟩ (.agg #[.int .i64 tk, .int .i64 tn]) rfl rfl (by kernel_rfl) (by decide) (by decide) ?_; intro w20 R20 e20 hin20 b20; have HR20 := Lib.hid hin20; have HL20 := Lib.hid (HL2.out.kept b20); clear e20 hin20 b20)
        | (at_builtin; refine wpList_append_rs vlL_len vlL_one rfl (.tmp 41) (.tmp 49) 61 rfl 142 i0 _ 16 Try.underlying61 HI0.out hz0 hz1 hz2 (by kernel_rfl) (by decide) LO HI1 V L rfl (HL20.out.at (.head _)) _ 1 [⟨tk, tn⟩] rfl HR20.out (by unfold maxLen; show _ + 1 ≤ _; omega) (by show (_ + 1) * 16 ≤ _; omega) (Nat.le_trans (HL20.out.hi (.head _)).1 (HL20.out.hi (.head _)).2) ?_; intro v21 w21 hown21 ho21; have HO21 := Lib.hid hown21; have HU21 := Lib.hid ho21; clear hown21 ho21))
      go_roundw
      case rel =>
        refine ⟨k + 1, _, by go_num, rfl, by omega, ?_, HU21.out.below HL20.out.below (HL20.out.lo (.head _)) HL20.out.below.size⟩
        have h := HO21.out
        rw [HX.out]
        have e := HLO.out
        subst e
        exact h
      case measure => simp [intOf]; omega
    · have HVv := Lib.hid (show F.take k = F from List.take_of_length_le (by have := HNl.out; omega))
      obtain ⟨a', cap', rfl, _, hn⟩ := HO.out.new vlL_len
      rw [HVv.out] at hn ⊢
      have HNn := Lib.hid hn
      have hbs := hb.size
      clear HO hn
      have HR5 := Lib.hid ((hb.block _ (Array.getElem?_eq_some_iff.1 HR50.out).1).trans HR50.out)
      go_wp2_with (first
        | (refine wpList_load_one rfl 68 (.tmp 35) rfl (R3) 3 rfl 70 #[.int .i64 P, .int .i64 S, .int .i64 R, .slice a N N] (0, 0) HR5.out (.slice a N N) rfl _ Try.underlying68 rfl (by kernel_rfl) ?_)
        | (refine wpList_put_at rfl 66 (.tmp 4) (.tmp 52) rfl rfl (R1) 0 rfl (.agg #[.slice a' (decF s F).length cap', .int .i64 0]) rfl #[.slice a' (decF s F).length cap', .int .i64 0] rfl 66 #[.slice none 0 0, .int .i64 0] #[.slice a' (decF s F).length cap', .int .i64 0] HRR.out (by kernel_rfl) (by kernel_rfl) (by kernel_rfl) (by kernel_rfl) ?_; intro wf gf of; have HGf := Lib.hid gf; have HOf := Lib.hid of; clear gf of))
      exact bodyPost_ret (results_cell_row (p := 4) (ty := 66) (by kernel_rfl) _ _ (R1) 66 _ (0, 0) _ rfl HGf.out Try.underlying66 rfl (by kernel_rfl)) rfl ⟨a', cap', by rw [HE.out, HC.out], by rw [HE.out]; exact ((HNn.out.out HOf.out (.inr (Nat.succ_le_of_lt lRR))).wide HBp.out.size HOf.out.size), HOf.out.below (HBp.out.trans (hb.mono HBp.out.size)) geRR (Nat.le_trans HBp.out.size hbs)⟩
end Go.Proofs.Ytanijfmfjabmfaa
