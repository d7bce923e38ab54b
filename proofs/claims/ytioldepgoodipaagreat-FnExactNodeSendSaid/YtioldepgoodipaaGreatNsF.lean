/- Several texts in one, each with its own head: what is proved, and of what, stands there. -/
import Derived.Test.YtioldepgoodipaaGreatNsB
import Derived.Lib.AppendZeros
import Derived.Laws.AppendOwnNone
import Derived.Test.YtioldepgoodipaaGreatNsD
import Derived.Deep.RegionHeld3
import Derived.Test.YtioldepgoodipaaGreatNsE
import Derived.Test.YtioldepgoodipaaGreatNsC
import Derived.Test.YtioldepgoodipaaGreatNsA
import Derived.BigQuiet
import Derived.Deep.QuietTactic
import Derived.RegionTactic
import Derived.BigRegion
import Derived.Laws.IdiomCopy
import Derived.Deep.RegionLaw
import Derived.Deep.RegionWith
namespace Go.Proofs.YtioldepgoodipaaGreat
open Go.RowKit Go.Joins
set_option linter.unusedVariables false

set_option maxRecDepth 100000 in
set_option maxHeartbeats 1000000 in
theorem grow_any (n : Nat) (w : World) (hn : n ≤ 1048576) :
  Calls Tryz.prog 239 #[.slice none 0 0, .int .i64 (n : Int)] w fun e w' => ∃ v, e = .returned v ∧ w'.ownsRow w.heap.size 66 2 v 0 [] ∧ Below w.heap.size w w' := by
 obtain ⟨i0, hi, hz0, hz1, hz2⟩ := info_parts CansTo.info
 have hd0 : decide ((n : Int) < 0) = false := decide_eq_false (by omega)
 by_cases h0 : n = 0
 ·subst h0
  go_enter Tryz.func239, Tryz.ntmps239
  go_wp2_with fail
  go_ret
  exact ⟨_, rfl, World.ownsRow_nil _ _ _ _, Below.refl _ _⟩
 ·have hd1 : decide (0 < (n : Int)) = true := decide_eq_true (by omega)
  have hr := fun ty => Lib.run_append_nil_zeros (P := Tryz.prog) w 41 3 ty 66 i0 _ .i64 .i64 Tryz.underlying41 Tryz.underlying3 hi hz0 n (by omega) (by rw [hz1]; omega) (by omega) (by rw [hz2]; omega)
  have hc1 := grownCap_le_maxLen w n 0 66 (by unfold maxLen; omega)
  have hc0 := grownCap_ge w n 0 66
  generalize grownCap w n 0 66 = c at *
  have HR := fun ty => Lib.hid (hr ty)
  have HC := Lib.hid hc1
  have HI := Lib.hid hi
  clear hr hc1 hi
  go_enter Tryz.func239, Tryz.ntmps239
  go_wp2_with (at_builtin; refine Lib.wpList_append_run _ rfl (.tmp 20) (.tmp 21) 41 3 rfl _ _ rfl rfl _ _ (HR _).out ?_)
  go_ret
  refine ⟨_, rfl, ⟨rfl, .inr ⟨w.heap.size, c, _, rfl, Nat.le_refl _, heap_alloc_new w _, Nat.zero_le _, HC.out, ?_, by simp⟩⟩, ((Below.refl _ _).alloc (Nat.le_refl _) _).drew⟩
  rw [Array.size_append, size_zeroCells, size_zeroCells]
  simp
  omega

section
variable {P : Program} {w : World}
theorem grownBy_same (w : World) (row : Option Nat) : w.grownBy w row := ⟨rfl, rfl, rfl, Nat.le_refl _, fun _ _ _ => rfl⟩
theorem run_append_owned_nil (base : Nat) (t ty e : TypeId) (i : TypeInfo) (size : Nat) (ht : P.underlying t = some (.slice e)) (hi : P.info? e = some i)
  (v : Value) (n : Nat) (xs : List Value) (hown : w.ownsRow base e size v n xs) (c : Nat) :
  (Builtin.append_ #[t, t] ty #[v, .slice none 0 c]).run P w = .ok v w := by
 rcases hown.2 with ⟨rfl, rfl⟩ | ⟨g, cap, cur, rfl, _, _, hnc, _⟩
 ·simp [Builtin.append_, run_underlying ht, sizeOf, typeInfo, hi, Builtin.lenOf, Builtin.firstCells]
 ·simp [Builtin.append_, run_underlying ht, sizeOf, typeInfo, hi, Builtin.lenOf, Builtin.firstCells, hnc, storeCells]
theorem wpList_append_cans {ops : Array Oper} {rest : List Oper} {o : Oper} {a : Act} {Q : Exit → Act → World → Prop} (hgd : o.guard = none) (s x : Operand) (t : TypeId)
  (ho : o.op = .call { callee := .builtin .append, args := #[s, x], argTypes := #[t, t] })
  (base : Nat) (e : TypeId) (i : TypeInfo) (z : Value) (bytes : Nat) (ht : P.underlying t = some (.slice e)) (hi : P.info? e = some i) (hz : i.zero = some z)
  (hsize : i.size = 2) (hby : i.bytes = bytes) (hzs : z.cells.size = 2)
  (v : Value) (n : Nat) (xs : List Value) (hs : a.eval s = v) (hown : w.ownsRow base e 2 v n xs)
  (ad : Option Addr) (c : Nat) (l : List (Int × ByteArray)) (hx : a.eval x = .slice ad l.length c) (hin : CansIn w ad l)
  (h63 : n + l.length ≤ maxLen) (hbytes : (n + l.length) * bytes ≤ 140737488355328) (hbase : base ≤ w.heap.size)
  (h : ∀ v' w', w'.ownsRow base e 2 v' (n + l.length) (xs ++ ccells l) → w.grownBy w' v.ownBlock → wpList P ops Q rest (a.put o.dst v') w') : wpList P ops Q (o :: rest) a w := by
 rcases ad with _ | ad
 ·have hl : l = [] := by
   rcases hin with h | ⟨b, o', h', _⟩
   ·exact h
   ·cases h'
  subst hl
  refine wpList_plain hgd fun K hK => ?_
  have hrun := run_append_owned_nil (P := P) (w := w) base t o.type e i 2 ht hi v n xs hown c
  unfold Oper.wp
  simp [execOp, ho, resolve, invoke, builtin, hs, hx, hrun, Result.andThen]
  exact hK _ _ (h v w (by simpa [ccells] using hown) (grownBy_same _ _))
 ·refine wpList_append_own w hgd s x t ho base e i z 2 bytes ht hi hz hsize hby hzs (by decide) v n xs hs hown ad l.length c (ccells l) hx (ccells_length l) ?_ (ccells_one l) h63 hbytes hbase fun v' w' h1 h2 _ => h v' w' h1 h2
  rcases hin with rfl | ⟨b, o', h', _, hc⟩
  ·intro j u hj
   simp [ccells] at hj
  ·cases h'
   exact cans_cells hc
end

theorem flat_succ {L : List (List (Int × ByteArray))} {k : Nat} {l : List (Int × ByteArray)} (h : L[k]? = some l) : (L.take (k + 1)).flatten = (L.take k).flatten ++ l := by
 obtain ⟨hk, rfl⟩ := List.getElem?_eq_some_iff.1 h
 rw [List.take_succ_eq_append_getElem hk, List.flatten_append]
 exact congrArg _ (by rw [List.flatten_cons, List.flatten_nil, List.append_nil])
theorem flat_le {L : List (List (Int × ByteArray))} (k : Nat) : (L.take k).flatten.length ≤ L.flatten.length := by
 have : L.flatten = (L.take k).flatten ++ (L.drop k).flatten := by rw [← List.flatten_append, List.take_append_drop]
 rw [this]
 simp

set_option maxRecDepth 100000 in
set_option maxHeartbeats 2000000 in
theorem concat_any (b o cap : Nat) (L : List (List (Int × ByteArray))) (w : World) (hlt : b < w.heap.size)
  (hrow : ∀ (j : Nat) l, L[j]? = some l → ∃ a c, w.cell? ⟨b, o + j, none⟩ = some (.slice a l.length c) ∧ CansIn w a l) (hlen : L.flatten.length ≤ 1048576) (hL : L.length ≤ 1048576) :
  Calls Tryz.prog 211 #[.slice (some ⟨b, o, none⟩) L.length cap] w fun e w' => ∃ v, e = .returned v ∧ w'.ownsRow w.heap.size 66 2 v L.flatten.length (ccells L.flatten) ∧ Below w.heap.size w w' := by
 obtain ⟨i0, hi, hz0, hz1, hz2⟩ := info_parts CansTo.info
 have HI := Lib.hid hi
 have HW := Lib.hid hrow
 obtain ⟨N, hN⟩ : ∃ N, L.length = N := ⟨_, rfl⟩
 have HN := Lib.hid hN
 obtain ⟨M, hM⟩ : ∃ M, L.flatten.length = M := ⟨_, rfl⟩
 have HM := Lib.hid hM
 rw [hN] at hL ⊢
 rw [hM] at hlen ⊢
 clear hN hM hrow hi
 go_enter Tryz.func211, Tryz.ntmps211
 go_wp2_with fail
 go_loopw [3, 5, 11] (fun u _ i wr => ∃ k m : Nat, i = .int .i64 (k : Int) ∧ u = .int .i64 (m : Int) ∧ k ≤ N ∧ m ≤ M ∧ m = (L.take k).flatten.length ∧ w = wr) (fun _ _ i _ => N - (intOf i).toNat)
 case atStart => exact ⟨0, 0, rfl, rfl, by omega, by omega, by simp, rfl⟩
 case round =>
  obtain ⟨k, m, rfl, rfl, hk, hm, hmk, rfl⟩ := hrel
  have HK := Lib.hid hmk
  clear hmk
  by_cases hkn : k < N
  ·obtain ⟨l, hl⟩ : ∃ l, L[k]? = some l := ⟨_, List.getElem?_eq_getElem (by have := HN.out; omega)⟩
   have hfs := flat_succ hl
   have hfl := flat_le (L := L) (k + 1)
   rw [hfs, List.length_append] at hfl
   have hml : m + l.length ≤ M := by have := HK.out; have := HM.out; omega
   have HS := Lib.hid (show m + l.length = (L.take (k + 1)).flatten.length by rw [hfs, List.length_append, ← HK.out])
   obtain ⟨a, c, hcell, hin⟩ := HW.out k l hl
   clear hfs hfl hl hin
   obtain ⟨q, hq⟩ : ∃ q, l.length = q := ⟨_, rfl⟩
   rw [hq] at hcell hml HS
   clear hq
   have hw1 : IntKind.i64.wrap ((m : Int) + (q : Int)) = ((m + q : Nat) : Int) := by rw [IntWalk.i64_in _ (by omega)]; omega
   have hd : decide (((m + q : Nat) : Int) < 0) = false := decide_eq_false (by omega)
   generalize m + q = m2 at *
   go_wp2_with fail
   go_roundw
   case rel => exact ⟨k + 1, m2, by go_num, rfl, by omega, hml, HS.out, by first | exact trivial | rfl⟩
   case measure => simp [intOf]; omega
  ·have hge : N ≤ k := by omega
   have hmM : m = M := by
    have := HK.out
    rw [List.take_of_length_le (by have := HN.out; omega)] at this
    have := HM.out
    omega
   subst hmM
   clear hm HK hkn
   go_wp2_with fail
   refine (grow_any m w hlen).mono ?_
   rintro e w1 ⟨v, rfl, hown, h1⟩
   go_wp2_with fail
   have HO := Lib.hid hown
   clear hown
   have hbs1 := h1.size
   go_loopw [6, 8, 27] (fun t _ i w2 => ∃ k n : Nat, i = .int .i64 (k : Int) ∧ k ≤ N ∧ n ≤ m ∧ n = (L.take k).flatten.length ∧ w2.ownsRow w.heap.size 66 2 t n (ccells (L.take k).flatten) ∧ Below w.heap.size w w2) (fun _ _ i _ => N - (intOf i).toNat)
   case atStart => exact ⟨0, 0, rfl, by omega, by omega, by simp, by simpa [ccells] using HO.out, h1⟩
   case round =>
    obtain ⟨k2, n, rfl, hk2, hn, hnk, hown, hb⟩ := hrel
    have HK := Lib.hid hnk
    have HO2 := Lib.hid hown
    have hbs := hb.size
    clear hnk hown
    by_cases hkn2 : k2 < N
    ·obtain ⟨l, hl⟩ : ∃ l, L[k2]? = some l := ⟨_, List.getElem?_eq_getElem (by have := HN.out; omega)⟩
     have hfs := flat_succ hl
     have hfl := flat_le (L := L) (k2 + 1)
     rw [hfs, List.length_append] at hfl
     have hml : n + l.length ≤ m := by have := HK.out; have := HM.out; omega
     have HS := Lib.hid (show n + l.length = (L.take (k2 + 1)).flatten.length by rw [hfs, List.length_append, ← HK.out])
     have HF := Lib.hid hfs
     obtain ⟨a, c, hcell, hin⟩ := HW.out k2 l hl
     have hcell2 := (hb.cell (p := ⟨b, o + k2, none⟩) hlt).trans hcell
     have HIN := Lib.hid (hin.kept hb)
     clear hfs hfl hl hin hcell
     obtain ⟨q, hq⟩ : ∃ q, l.length = q := ⟨_, rfl⟩
     have HQ := Lib.hid hq
     rw [hq] at hcell2 hml HS
     clear hq
     go_wp2_with (at_builtin; refine wpList_append_cans rfl (.tmp 31) (.tmp 32) 41 rfl w.heap.size 66 i0 _ 24 Tryz.underlying41 HI.out hz0 hz1 hz2 rfl _ n _ rfl HO2.out a c l (by rw [HQ.out]; rfl) HIN.out (by rw [HQ.out]; unfold maxLen; omega) (by rw [HQ.out]; omega) hbs ?_; intro v3 w3 hown3 hgrow3)
     go_roundw
     case rel => exact ⟨k2 + 1, n + q, by go_num, by omega, hml, HS.out, by rw [HF.out, ccells_append, ← HQ.out]; exact hown3, hb.grown hgrow3 hbs (fun j hj => (World.ownsRow.lt HO2.out j hj).1)⟩
     case measure => simp [intOf]; omega
    ·have hge2 : N ≤ k2 := by omega
     have e := List.take_of_length_le (l := L) (i := k2) (by have := HN.out; omega)
     have HE : Hid (wr.ownsRow w.heap.size 66 2 u6 m (ccells L.flatten)) := Lib.hid (by
      have h2 := HO2.out
      have h3 := HK.out
      rw [e] at h2 h3
      rw [HM.out] at h3
      rwa [h3] at h2)
     clear e HO2 HK
     go_wp2_with fail
     go_ret
     exact ⟨_, rfl, HE.out, hb⟩
end Go.Proofs.YtioldepgoodipaaGreat
namespace Go.Proofs.YtioldepgoodipaaGreat
open Go.RowKit Go.Joins
set_option linter.unusedVariables false
set_option maxHeartbeats 1000000 in
theorem with_any (a a' : Option Addr) (c c' : Nat) (l l' : List (Int × ByteArray)) (w : World) (h : CansIn w a l) (h' : CansIn w a' l') (hlen : l.length + l'.length ≤ 1048576) :
  Calls Tryz.prog 167 #[.agg #[.slice a l.length c], .slice a' l'.length c'] w fun e w' => ∃ a2 c2, e = .returned (.agg #[.slice a2 (l ++ l').length c2]) ∧ (l ++ l').length ≤ c2 ∧ NewIn w.heap.size w'.heap.size w' a2 (l ++ l') ∧ Below w.heap.size w w' := by
 have HC := Lib.hid h
 have HC' := Lib.hid h'
 have HX := fun b W hb h0 => Lib.hid (concat_any b 0 2 [l, l'] W hb h0 (by simpa using hlen) (by simp))
 have HL := Lib.hid (show [l, l'].flatten = l ++ l' by simp)
 have HB := Lib.hid (fun o o' : Obj => ((Below.refl w.heap.size w).alloc (Nat.le_refl _) o).alloc (by simp) o')
 clear h h'
 go_enter Tryz.func167, Tryz.ntmps167
 go_wp2_with fail
 have hz : 2 < 3 := by decide
 refine (HX _ _ (by simp) (fun j l0 hj => ?_)).out.mono ?_
 ·match j, hj with
  | 0, hj =>
   obtain rfl : l = l0 := by simpa using hj
   exact ⟨a, c, by simp [go_sem], HC.out.kept ((HB.out _ _).alloc (by simp; omega) _)⟩
  | 1, hj =>
   obtain rfl : l' = l0 := by simpa using hj
   exact ⟨a', c', by simp [go_sem], HC'.out.kept ((HB.out _ _).alloc (by simp; omega) _)⟩
  | (j + 2), hj => simp at hj
 rintro e w4 ⟨v, rfl, hown, h4⟩
 rw [HL.out] at hown
 obtain ⟨a2, c2, rfl, hle, hnew⟩ := NewIn.of_owns hown
 obtain ⟨c4, f4⟩ := bcell h4
 have z4 : w.heap.size + 1 < w4.heap.size := by have := h4.size; simp at this; omega
 have HN := Lib.hid hnew
 have HE := Lib.hid hle
 clear hown hnew hle
 go_wp2
 refine bodyPost_ret (v := .agg #[.slice a2 (l ++ l').length c2]) (by simp [results, Tryz.results167, go_sem, c4]) rfl
  ⟨a2, c2, rfl, HE.out, ?_, ((((HB.out _ _).alloc (by simp; omega) _).trans (h4.mono (by simp; omega)))).setCell (by simp) _⟩
 refine NewIn.wide (lo := w.heap.size + 3) (hi := w4.heap.size) ?_ (by omega) (by simp)
 refine NewIn.out (lo' := w.heap.size + 1) (hi' := w.heap.size + 2) (by simpa using HN.out) ((Out.refl _ _ _).setCell (by simp) (by simp) _) (.inr (by omega))

end Go.Proofs.YtioldepgoodipaaGreat
namespace Go.Proofs.YtioldepgoodipaaGreat
open Go.RowKit Go.Joins
set_option linter.unusedVariables false

def putCode (q l : List (Int × ByteArray)) : Int := if 400 < l.length then 2 else if qRightB q = false ∨ allB l = false then 1 else if 16 < q.length + l.length then 9 else 0
theorem putCode_size {q l : List (Int × ByteArray)} (h : 400 < l.length) : putCode q l = 2 := if_pos h
theorem putCode_form {q l : List (Int × ByteArray)} (h : ¬ 400 < l.length) (h2 : qRightB q = false ∨ allB l = false) : putCode q l = 1 := by rw [putCode, if_neg h, if_pos h2]
theorem putCode_full {q l : List (Int × ByteArray)} (h : ¬ 400 < l.length) (h1 : qRightB q = true) (h2 : allB l = true) (h3 : 16 < q.length + l.length) : putCode q l = 9 := by
 rw [putCode, if_neg h, if_neg (by rw [h1, h2]; simp), if_pos h3]
theorem putCode_ok {q l : List (Int × ByteArray)} (h : ¬ 400 < l.length) (h1 : qRightB q = true) (h2 : allB l = true) (h3 : ¬ 16 < q.length + l.length) : putCode q l = 0 := by
 rw [putCode, if_neg h, if_neg (by rw [h1, h2]; simp), if_neg h3]
theorem putCode_zero {q l : List (Int × ByteArray)} (h : putCode q l = 0) : ¬ 400 < l.length ∧ qRightB q = true ∧ allB l = true ∧ ¬ 16 < q.length + l.length := by
 unfold putCode at h
 split at h
 ·cases h
 split at h
 ·cases h
 split at h
 ·cases h
 ·rename_i h1 h2 h3
  refine ⟨h1, ?_, ?_, h3⟩
  ·rcases hq : qRightB q
   ·exact absurd (.inl hq) h2
   ·rfl
  ·rcases hq : allB l
   ·exact absurd (.inr hq) h2
   ·rfl
def putL (q l : List (Int × ByteArray)) : List (Int × ByteArray) := if putCode q l = 0 then q ++ l else []

def QOut (w : World) (L : List (Int × ByteArray)) (n : Int) (s : ByteArray) (c : Int) (e : Ending) (w' : World) : Prop :=
 ∃ a cap, e = .returned (.agg #[.slice a L.length cap, .int .i64 n, .string s, .int .i64 c]) ∧ L.length ≤ cap ∧ NewIn w.heap.size w'.heap.size w' a L ∧ Below w.heap.size w w'
def QNew (w : World) (L : List (Int × ByteArray)) (e : Ending) (w' : World) : Prop :=
 ∃ a cap, e = .returned (.agg #[.slice a L.length cap]) ∧ L.length ≤ cap ∧ NewIn w.heap.size w'.heap.size w' a L ∧ Below w.heap.size w w'

set_option maxHeartbeats 2000000 in
theorem putFault_any (a a' : Option Addr) (c c' : Nat) (q l : List (Int × ByteArray)) (w : World) (h : CansIn w a q) (hok : CansOk q) (hlen : q.length ≤ 1048576) (h' : CansIn w a' l) (hok' : CansOk l) (hlen' : l.length ≤ 1048576) :
  Calls Tryz.prog 166 #[.agg #[.slice a q.length c], .slice a' l.length c'] w fun e w' => e = .returned (.int .i64 (putCode q l)) ∧ Below w.heap.size w w' := by
 have HB := Lib.hid (fun o : Obj => (Below.refl w.heap.size w).alloc (Nat.le_refl _) o)
 have HQ := fun W hW => Lib.hid (implQueueRight_any a c q W hW hok hlen)
 have HA := fun W hW => Lib.hid (implAllRight_any a' c' l W hW hok' hlen')
 have HC := Lib.hid h
 have HC' := Lib.hid h'
 clear h h' hok hok'
 by_cases h4 : 400 < l.length
 ·have hd : decide (400 < (l.length : Int)) = true := decide_eq_true (by omega)
  have HP := Lib.hid (putCode_size (q := q) h4)
  go_enter Tryz.func166, Tryz.ntmps166
  go_wp2_with fail
  go_ret
  exact ⟨by rw [HP.out]; rfl, HB.out _⟩
 have hd : decide (400 < (l.length : Int)) = false := decide_eq_false (by omega)
 rcases hq : qRightB q
 ·rw [hq] at HQ
  have HP := Lib.hid (putCode_form (l := l) h4 (.inl hq))
  go_enter Tryz.func166, Tryz.ntmps166
  go_wp2_with fail
  refine (HQ _ (HC.out.kept (HB.out _))).out.mono ?_
  rintro e w1 ⟨rfl, h1⟩
  go_wp2_with fail
  go_ret
  exact ⟨by rw [HP.out]; rfl, (HB.out _).trans (h1.mono (by simp))⟩
 rw [hq] at HQ
 rcases ha : allB l
 ·rw [ha] at HA
  have HP := Lib.hid (putCode_form (q := q) h4 (.inr ha))
  go_enter Tryz.func166, Tryz.ntmps166
  go_wp2_with fail
  refine (HQ _ (HC.out.kept (HB.out _))).out.mono ?_
  rintro e w1 ⟨rfl, h1⟩
  have b1 := (HB.out _).trans (h1.mono (by simp))
  go_wp2_with fail
  refine (HA _ (HC'.out.kept b1)).out.mono ?_
  rintro e w2 ⟨rfl, h2⟩
  go_wp2_with fail
  go_ret
  exact ⟨by rw [HP.out]; rfl, b1.trans (h2.mono b1.size)⟩
 rw [ha] at HA
 have hw : IntKind.i64.wrap ((q.length : Int) + (l.length : Int)) = (q.length : Int) + l.length := IntWalk.i64_in _ (by omega)
 obtain ⟨d, hd2⟩ : ∃ d : Bool, decide (16 < (q.length : Int) + (l.length : Int)) = d := ⟨_, rfl⟩
 have HP : Hid (putCode q l = if d then 9 else 0) := Lib.hid (by
  by_cases h3 : 16 < q.length + l.length
  ·rw [putCode_full h4 hq ha h3, ← hd2, decide_eq_true (by omega)]; rfl
  ·rw [putCode_ok h4 hq ha h3, ← hd2, decide_eq_false (by omega)]; rfl)
 cases d
 all_goals
  go_enter Tryz.func166, Tryz.ntmps166
  go_wp2_with fail
  refine (HQ _ (HC.out.kept (HB.out _))).out.mono ?_
  rintro e w1 ⟨rfl, h1⟩
  have b1 := (HB.out _).trans (h1.mono (by simp))
  have e1 : w1.cell? ⟨w.heap.size, 0, none⟩ = some (.slice a q.length c) := (h1.cell (p := ⟨w.heap.size, 0, none⟩) (by simp)).trans (by simp [go_sem])
  have s1 : w.heap.size < w1.heap.size := by have := h1.size; simp at this; omega
  go_wp2_with fail
  refine (HA _ (HC'.out.kept b1)).out.mono ?_
  rintro e w2 ⟨rfl, h2⟩
  have e2 := (h2.cell (p := ⟨w.heap.size, 0, none⟩) s1).trans e1
  go_wp2_with fail
  go_ret
  exact ⟨by rw [HP.out]; rfl, b1.trans (h2.mono b1.size)⟩
set_option maxRecDepth 100000 in
set_option maxHeartbeats 4000000 in
theorem implQueuePut_any (a a' : Option Addr) (c c' : Nat) (q l : List (Int × ByteArray)) (w : World) (h : CansIn w a q) (hok : CansOk q) (hlen : q.length ≤ 1048576) (h' : CansIn w a' l) (hok' : CansOk l) (hlen' : l.length ≤ 1048576) :
  Calls Tryz.prog 101 #[.agg #[.slice a q.length c], .slice a' l.length c'] w (QOut w (putL q l) 0 ⟨#[]⟩ (putCode q l)) := by
 have HB := Lib.hid (fun o o' : Obj => ((Below.refl w.heap.size w).alloc (Nat.le_refl _) o).alloc (by simp) o')
 have HF := fun W hW hW' => Lib.hid (putFault_any a a' c c' q l W hW hok hlen hW' hok' hlen')
 have HC := Lib.hid h
 have HC' := Lib.hid h'
 clear h h' hok hok'
 by_cases hz : putCode q l = 0
 ·rw [hz] at HF ⊢
  have hL : putL q l = q ++ l := if_pos hz
  rw [hL]
  obtain ⟨g1, g2, g3, g4⟩ := putCode_zero hz
  have HSM : Hid (CansSmall (q ++ l)) := Lib.hid (by
   intro x hx
   rcases List.mem_append.1 hx with hx | hx
   ·exact CansSmall.of_all (qRightB_of g2).2 x hx
   ·exact CansSmall.of_all g3 x hx)
  have HL := Lib.hid (show (q ++ l).length ≤ 1048576 by simp; omega)
  have HL2 := Lib.hid (show q.length + l.length ≤ 1048576 by omega)
  have HW := fun W h h' => Lib.hid (with_any a a' c c' q l W h h' (by omega))
  clear g1 g2 g3 g4 hz hL
  obtain ⟨L, hLL⟩ : ∃ L, q ++ l = L := ⟨_, rfl⟩
  rw [hLL] at HW HSM HL ⊢
  clear hLL HL2
  go_enter Tryz.func101, Tryz.ntmps101
  go_wp2_with fail
  refine (HF _ (HC.out.kept (HB.out _ _)) (HC'.out.kept (HB.out _ _))).out.mono ?_
  rintro e w1 ⟨rfl, h1⟩
  have b1 := (HB.out _ _).trans (h1.mono (by simp; omega))
  have HA := Lib.hid (((RowAt.new w #[.slice a q.length c] 43).alloc _).kept h1)
  have HR := (RowAt.new _ _ _).kept h1
  simp only [World.size_alloc] at HR
  have HR := Lib.hid HR
  have e1 := HA.out.get 0 _ rfl
  clear h1
  go_wp2_with fail
  refine (waitingIn_any _ ⟨_, _, _, rfl⟩ _).mono ?_
  rintro e w2 ⟨rfl, h2⟩
  have b2 := b1.trans (h2.mono b1.size)
  have HR2 := Lib.hid (HR.out.kept h2)
  clear h2 e1 HR
  go_wp2_with fail
  refine (HW _ (HC.out.kept b2) (HC'.out.kept b2)).out.mono ?_
  rintro e w3 ⟨a3, c3, rfl, hc3, hn3, h3⟩
  have b3 := b2.trans (h3.mono b2.size)
  have HR3 := Lib.hid (HR2.out.kept h3)
  have HN3 := Lib.hid hn3
  clear h3 HR2 hn3 hc3
  go_wp2_with fail
  refine (freshQueue_any a3 c3 L _ HN3.out.cans HSM.out HL.out).mono ?_
  rintro e w4 ⟨a4, c4, rfl, hc4, hn4, h4⟩
  have b4 := b3.trans (h4.mono b3.size)
  have HR4 := Lib.hid (HR3.out.kept h4)
  have hlo := b3.size
  have HN4 := Lib.hid hn4
  have HC4 := Lib.hid hc4
  have hR := HR3.out.lt
  clear h4 HR3 HN3 hn4 hc4
  have x0 := HR4.out.get 0 _ rfl
  have x1 := HR4.out.get 1 _ rfl
  have x2 := HR4.out.get 2 _ rfl
  have x3 := HR4.out.get 3 _ rfl
  have y := HR4.out.free
  clear HA HR4 HL HSM
  go_wp2
  refine bodyPost_ret (v := .agg #[.slice a4 L.length c4, .int .i64 0, .string ⟨#[]⟩, .int .i64 0]) (by simp [results, Tryz.results101, go_sem, x0, x1, x2, x3]) rfl
   ⟨a4, c4, rfl, HC4.out, ?_, (((b4.setCell (by simp) _).setCell (by simp) _).setCell (by simp) _).setCell (by simp) _⟩
  refine NewIn.wide (lo := w3.heap.size) (hi := w4.heap.size) (NewIn.out (lo' := w.heap.size + 1) (hi' := w.heap.size + 2) HN4.out ?_ (.inr (by omega))) (by omega) (by simp)
  exact ((((Out.refl _ _ _).setCell (by simp) (by simp) _).setCell (by simp) (by simp) _).setCell (by simp) (by simp) _).setCell (by simp) (by simp) _
 ·have hL : putL q l = [] := if_neg hz
  rw [hL]
  obtain ⟨k, hk⟩ : ∃ k, putCode q l = k := ⟨_, rfl⟩
  rw [hk] at HF hz ⊢
  have hd : (k == 0) = false := beq_eq_false_iff_ne.2 hz
  clear hk hL hz
  go_enter Tryz.func101, Tryz.ntmps101
  go_wp2_with fail
  refine (HF _ (HC.out.kept (HB.out _ _)) (HC'.out.kept (HB.out _ _))).out.mono ?_
  rintro e w1 ⟨rfl, h1⟩
  have b1 := (HB.out _ _).trans (h1.mono (by simp; omega))
  have HR := Lib.hid ((RowAt.new _ _ _).kept h1)
  clear h1
  have x0 := HR.out.get 0 _ rfl
  have x1 := HR.out.get 1 _ rfl
  have x2 := HR.out.get 2 _ rfl
  have x3 := HR.out.get 3 _ rfl
  have y := HR.out.free
  simp only [World.size_alloc] at x0 x1 x2 x3 y
  clear HR
  go_wp2
  exact bodyPost_ret (v := .agg #[.slice none 0 0, .int .i64 0, .string ⟨#[]⟩, .int .i64 k]) (by simp [results, Tryz.results101, go_sem, x0, x1, x2, x3]) rfl
   ⟨none, 0, rfl, Nat.le_refl _, .inl rfl, (((b1.setCell (by simp) _).setCell (by simp) _).setCell (by simp) _).setCell (by simp) _⟩
end Go.Proofs.YtioldepgoodipaaGreat
namespace Go.Proofs.YtioldepgoodipaaGreat
open Go.RowKit Go.ChangeShapes Go.WideShapes Go.ChangeAt Go.Joins
set_option linter.unusedVariables false

def vlV (k n : Int) : Value := .agg #[.int .i64 k, .int .i64 n]
def IsFd (v : Value) : Prop := ∃ a w g, v = fdV a w g ∧ I64 a ∧ I64 w
def IsVl (v : Value) : Prop := ∃ k n, v = vlV k n ∧ I64 k ∧ I64 n
section
variable {H : Type} {enc : TypeId × Value → H} {w : World} {base : Nat} {spare : Nat → Bool} {held : Bool} {b0 : Nat} {r : Reach} {v : Value} {d : DataW H} {ps : List MemPlace}
end
end Go.Proofs.YtioldepgoodipaaGreat
namespace Go.Proofs.YtioldepgoodipaaGreat
open Go.RowKit
set_option linter.unusedVariables false

structure Vl where
 k : Int
 v : Int
def vlL (x : Vl) : List Value := [.int .i64 x.k, .int .i64 x.v]
theorem vlL_len (x : Vl) : (vlL x).length = 2 := rfl
def vlAt (l : List Vl) (i : Nat) : Vl := l[i]?.getD ⟨0, 0⟩
theorem vlAt_some {l : List Vl} {i : Nat} (h : i < l.length) : l[i]? = some (vlAt l i) := by
 unfold vlAt
 rw [List.getElem?_eq_getElem h]
 rfl
set_option maxHeartbeats 1000000 in
theorem toValue_row (x : Vl) (W : World) :
  Calls Tryz.prog 44 #[.agg (vlL x).toArray] W fun e W' => e = .returned (.agg (vlL x).toArray) ∧ Below W.heap.size W W' := by
 obtain ⟨k, v⟩ := x
 unfold vlL
 go_enter Tryz.func44, Tryz.ntmps44
 go_wp2
 exact bodyPost_ret (v := .agg #[.int .i64 k, .int .i64 v]) (by simp [results, Tryz.results44, go_sem]) rfl ⟨rfl, (((Below.refl _ _).alloc (Nat.le_refl _) _).alloc (by simp) _).alloc (by simp; omega) _⟩
theorem ValueTo.info : (Tryz.prog.info? 99).map (fun i => (i.zero, i.size, i.bytes)) = some (some (.agg #[.int .i64 0, .int .i64 0]), 2, 16) := by kernel_rfl
set_option maxRecDepth 100000 in
set_option maxHeartbeats 2000000 in
theorem toValueS_new (a : Option Addr) (cap : Nat) (l : List Vl) (w : World) (h : RsIn vlL 2 w a l) (hlen : l.length ≤ 1048576) :
  Calls Tryz.prog 10 #[.slice a l.length cap] w fun e w' => ∃ a', e = .returned (.slice a' l.length l.length) ∧ RsNew vlL 2 99 w.heap.size w'.heap.size w' a' l ∧ Below w.heap.size w w' := by
 obtain ⟨i0, hi, hz0, hz1, hz2⟩ := info_parts ValueTo.info
 obtain ⟨N, hN⟩ : ∃ N, l.length = N := ⟨_, rfl⟩
 have HN := Lib.hid hN
 have HH := Lib.hid h
 rw [hN] at hlen ⊢
 clear hN h
 go_enter Tryz.func10, Tryz.ntmps10
 go_wp2_with (at_make; refine wpList_make_full _ rfl (.tmp 6) (.tmp 6) 53 rfl w.heap.size 99 i0 (.agg #[.int .i64 0, .int .i64 0]) 2 Tryz.underlying53 hi hz0 hz1 .i64 .i64 (N : Int) (N : Int) N (by rfl) (by rfl) (by omega) (by omega) (by rw [hz2]; omega) (by unfold maxLen; omega) (Nat.le_refl _) ?_; intro w1 hown hgrow)
 have hb1 : Below w.heap.size w w1 := (Below.refl _ _).grown hgrow (Nat.le_refl _) (fun _ h => by cases h)
 rcases Nat.eq_zero_or_pos N with hN0 | hN0
 ·subst hN0
  have hl : l = [] := List.eq_nil_of_length_eq_zero HN.out
  clear hown hgrow
  refine wp_loop_rounds 1 ?_
  rw [rounds_succ]; go_wp2
  go_ret
  exact ⟨_, rfl, .inl (by first | exact hl | rfl), hb1⟩
 obtain ⟨row0, hg0, hs0⟩ : ∃ row0, w1.heap[w.heap.size]? = some (.cells row0 99 (0, 0)) ∧ row0.size = N * 2 := by
  rcases hown.2 with ⟨h', _⟩ | ⟨g', cap', cur, h', _, hg, _, _, hc, _⟩
  ·simp at h'
  ·simp only [Value.slice.injEq, Option.some.injEq, Addr.mk.injEq, and_true, true_and] at h'
   obtain ⟨rfl, rfl⟩ := h'
   exact ⟨cur, hg, hc⟩
 have HG0 := Lib.hid hg0
 have HS0 := Lib.hid hs0
 clear hown hgrow hg0 hs0
 obtain ⟨b, o, rfl, hlt, hc⟩ := HH.out.at (by have := HN.out; omega)
 have HI := Lib.hid hc
 clear hc HH
 go_loopw [4] (fun i wr => ∃ (k : Nat) (row : Array Value), i = .int .i64 (k : Int) ∧ k ≤ N ∧ Below w.heap.size w wr ∧ wr.heap[w.heap.size]? = some (.cells row 99 (0, 0)) ∧ row.size = N * 2 ∧
  (∀ j, j < k → ∀ c v, (vlL (vlAt l j))[c]? = some v → row[j * 2 + c]? = some v)) (fun i _ => N - (intOf i).toNat)
 case atStart => exact ⟨0, row0, rfl, by omega, hb1, HG0.out, HS0.out, fun j hj => absurd hj (by omega)⟩
 case round =>
  obtain ⟨k, row, rfl, hk, hb, hgr, hrs, hdone⟩ := hrel
  have HD := Lib.hid hdone
  have HR := Lib.hid hgr
  have HRs := Lib.hid hrs
  have hsz : w.heap.size < wr.heap.size := (Array.getElem?_eq_some_iff.1 hgr).1
  clear hdone hgr hrs
  by_cases hkn : k < N
  ·have hkl : k < l.length := by have := HN.out; omega
   have hi1 : (0 : Int) ≤ (k : Int) := by omega
   have hi2 : (k : Int) < (N : Int) := by omega
   have HCs := Lib.hid (fun j v hv => (hb.cell (p := ⟨b, _, none⟩) hlt).trans (HI.out k _ (vlAt_some hkl) j v hv))
   go_wp2_with (refine wpList_load_cells rfl 101 (.tmp 18) rfl b (o + k * 2) rfl (vlL (vlAt l k)) HCs.out _ Tryz.underlying101 rfl (by kernel_rfl) ?_)
   refine (toValue_row _ _).mono ?_
   rintro e w2 ⟨rfl, h2⟩
   have hg2 := (h2.block _ hsz).trans HR.out
   have HG2 := Lib.hid hg2
   clear hg2
   go_wp2_with (refine wpList_put_at rfl 99 (.tmp 21) (.tmp 20) rfl rfl (w.heap.size) (k * 2) rfl (.agg (vlL (vlAt l k)).toArray) rfl (vlL (vlAt l k)).toArray rfl 99 row _ HG2.out (by kernel_rfl) (Nat.ble_eq_true_of_le (by show k * 2 + 2 ≤ row.size; rw [HRs.out]; omega)) (by rfl) rfl ?_; intro w3 g3 o3; have HG3 := Lib.hid g3; have HO3 := Lib.hid o3; clear g3 o3)
   go_roundw
   case rel =>
    refine ⟨k + 1, _, by go_num, by omega, ?_, HG3.out, by rw [setAll_size, HRs.out], fun j hj c v hv => ?_⟩
    ·exact HO3.out.below (hb.trans (h2.mono (Nat.le_of_lt hsz))) (Nat.le_refl _) (Nat.le_trans (Nat.le_of_lt hsz) h2.size)
    ·have hc7 : c < 2 := by
      have := (List.getElem?_eq_some_iff.1 hv).1
      rwa [vlL_len] at this
     rcases Nat.lt_or_ge j k with h | h
     ·rw [setAll_off _ _ _ _ (.inl (by omega))]
      exact HD.out j h c v hv
     ·obtain rfl : j = k := by omega
      exact setAll_at _ _ _ _ _ (by show j * 2 + 2 ≤ row.size; rw [HRs.out]; omega) hv
   case measure => simp [intOf]; omega
  ·have hge : N ≤ k := by omega
   go_wp2_with fail
   go_ret
   exact ⟨_, rfl, .inr ⟨w.heap.size, 0, row, rfl, Nat.le_refl _, hsz, HR.out, by rw [HRs.out, HN.out]; omega, fun i x hx c v hv => by
    have hi : i < l.length := (List.getElem?_eq_some_iff.1 hx).1
    rw [vlAt_some hi] at hx
    obtain rfl := Option.some.inj hx
    rw [Nat.zero_add]
    exact HD.out i (by have := HN.out; omega) c v hv⟩, hb⟩
set_option maxHeartbeats 1000000 in
theorem eqValue_row (x : Vl) (W : World) :
  Calls Tryz.prog 56 #[.agg (vlL x).toArray, .agg (vlL x).toArray] W fun e W' => e = .returned (.bool true) ∧ Below W.heap.size W W' := by
 obtain ⟨k, v⟩ := x
 unfold vlL
 go_enter Tryz.func56, Tryz.ntmps56
 go_wp2
 go_ret
 exact ⟨rfl, ((Below.refl _ _).alloc (Nat.le_refl _) _).alloc (by simp) _⟩
set_option maxRecDepth 100000 in
set_option maxHeartbeats 2000000 in
theorem eqValueS_same (a a' : Option Addr) (cap cap' : Nat) (l : List Vl) (w : World) (h : RsIn vlL 2 w a l) (h' : RsIn vlL 2 w a' l) (hlen : l.length ≤ 1048576) :
  Calls Tryz.prog 14 #[.slice a l.length cap, .slice a' l.length cap'] w fun e w' => e = .returned (.bool true) ∧ Below w.heap.size w w' := by
 obtain ⟨N, hN⟩ : ∃ N, l.length = N := ⟨_, rfl⟩
 have HN := Lib.hid hN
 have HI := Lib.hid h
 have HI' := Lib.hid h'
 rw [hN] at hlen ⊢
 clear hN h h'
 go_enter Tryz.func14, Tryz.ntmps14
 go_wp2_with fail
 go_loopw [5] (fun i wr => ∃ k : Nat, i = .int .i64 (k : Int) ∧ k ≤ N ∧ Below w.heap.size w wr) (fun i _ => N - (intOf i).toNat)
 case atStart => exact ⟨0, rfl, by omega, Below.refl _ _⟩
 case round =>
  obtain ⟨k, rfl, hk, hb⟩ := hrel
  by_cases hkn : k < N
  ·have hkl : k < l.length := by have := HN.out; omega
   have hi1 : (0 : Int) ≤ (k : Int) := by omega
   have hi2 : (k : Int) < (N : Int) := by omega
   obtain ⟨b, o, rfl, hlt, hc⟩ := HI.out.at (by omega)
   obtain ⟨b', o', rfl, hlt', hc'⟩ := HI'.out.at (by omega)
   have lB : b < wr.heap.size := Nat.lt_of_lt_of_le hlt hb.size
   have lB' : b' < wr.heap.size := Nat.lt_of_lt_of_le hlt' hb.size
   have HC := Lib.hid (fun j v hv => (hb.cell (p := ⟨b, _, none⟩) hlt).trans (hc k _ (vlAt_some hkl) j v hv))
   have HC' := Lib.hid (fun j v hv => (hb.cell (p := ⟨b', _, none⟩) hlt').trans (hc' k _ (vlAt_some hkl) j v hv))
   clear hc hc'
   generalize vlAt l k = x at *
   go_wp2_with fail
   refine wp_region_quiet (C := fun W => Below wr.heap.size wr W) (by kernel_rfl) (by kernel_rfl) (Below.refl _ _).drew ?_
   dsimp only
   iterate 3 (go_big_quiet_want; go_big_quiet_op; first | go_big_quiet_on | (refine ⟨_, fun _ _ => rfl, ?_⟩; go_big_quiet_on))
   go_big_quiet_want; refine ⟨.agg (vlL x).toArray, fun W hW => (quietLoadCells 99 (.tmp 19) rfl b (o + k * 2) rfl (vlL x) (grownCells lB HC.out hW) _ Tryz.underlying99 rfl (by kernel_rfl)), ?_⟩; simp only [Act.put, List.setIfInBounds_toArray, List.set_cons_zero, List.set_cons_succ]; go_big_quiet_on
   iterate 3 (go_big_quiet_want; go_big_quiet_op; first | go_big_quiet_on | (refine ⟨_, fun _ _ => rfl, ?_⟩; go_big_quiet_on))
   go_big_quiet_want; refine ⟨.agg (vlL x).toArray, fun W hW => (quietLoadCells 99 (.tmp 23) rfl b' (o' + k * 2) rfl (vlL x) (grownCells lB' HC'.out hW) _ Tryz.underlying99 rfl (by kernel_rfl)), ?_⟩; simp only [Act.put, List.setIfInBounds_toArray, List.set_cons_zero, List.set_cons_succ]; go_big_quiet_on
   go_big_quiet_want; go_big_quiet_op; refine ⟨_, fun W hW => quietCall hW (eqValue_row x W), ?_⟩; go_big_quiet_on
   go_big_quiet_want; go_big_quiet_op; first | go_big_quiet_on | (refine ⟨_, fun _ _ => rfl, ?_⟩; go_big_quiet_on)
   refine wpQuiet_nil ?_
   intro X hX
   go_wp2_with fail
   go_roundw
   case rel => exact ⟨k + 1, by go_num, by omega, hb.trans (hX.mono hb.size)⟩
   case measure => simp [intOf]; omega
  ·go_wp2_with fail
   go_ret
   exact ⟨rfl, hb⟩
def markVl (q : Nat) : Vl := ⟨((q : Nat) : Int), ((q + 1 : Nat) : Int)⟩
def marksVl (k m : Nat) : List Vl := (List.range m).map fun i => markVl (k + 2 * i)
theorem marksVl_length (k m : Nat) : (marksVl k m).length = m := by simp [marksVl]
theorem marksVl_at {k m i : Nat} {x : Vl} (h : (marksVl k m)[i]? = some x) : i < m ∧ x = markVl (k + 2 * i) := by
 unfold marksVl at h
 rw [List.getElem?_map] at h
 obtain ⟨j, hj, rfl⟩ := Option.map_eq_some_iff.1 h
 obtain ⟨hi, rfl⟩ := List.getElem?_eq_some_iff.1 hj
 have hi' : i < m := by simpa using hi
 simp [hi']
set_option maxRecDepth 100000 in
set_option maxHeartbeats 8000000 in
theorem markValueS_any {lo hi : Nat} (a : Option Addr) (cap : Nat) (l : List Vl) (k : Nat) (w : World) (h : RsNew vlL 2 99 lo hi w a l) (hk0 : 0 < k) (hk : k + 2 * l.length ≤ 30000000) :
  Calls Tryz.prog 16 #[.slice a l.length cap, .int .i64 (k : Int)] w fun e w' => e = .returned (.int .i64 ((k + 2 * l.length : Nat) : Int)) ∧ RsNew vlL 2 99 lo hi w' a (marksVl k l.length) ∧ Out lo hi w w' := by
 obtain ⟨N, hN⟩ : ∃ N, l.length = N := ⟨_, rfl⟩
 have HN := Lib.hid hN
 rcases Nat.eq_zero_or_pos N with hN0 | hN0
 ·rw [hN]
  subst hN0
  clear hN h
  go_enter Tryz.func16, Tryz.ntmps16
  go_wp2
  refine wp_loop_rounds 1 ?_
  rw [rounds_succ]; go_wp2
  go_ret
  exact ⟨rfl, .inl (by first | rfl | (simp [marksVl])), Out.refl _ _ _⟩
 obtain ⟨b, o, row0, rfl, hlo, hhi, hg0, hs0⟩ : ∃ b o row, a = some ⟨b, o, none⟩ ∧ lo ≤ b ∧ b < hi ∧ w.heap[b]? = some (.cells row 99 (0, 0)) ∧ o + N * 2 ≤ row.size := by
  rcases h with h | ⟨b, o, row, h1, h2, h3, h4, h5, h6⟩
  ·rw [h] at hN
   simp at hN
   omega
  ·rw [hN] at h5
   exact ⟨b, o, row, h1, h2, h3, h4, h5⟩
 have HG0 := Lib.hid hg0
 have hN8 : N ≤ 30000000 := by omega
 have HS0 := Lib.hid hs0
 rw [hN] at hk ⊢
 clear hN h hg0 hs0
 go_enter Tryz.func16, Tryz.ntmps16
 go_wp2_with fail
 go_loopw [1, 5] (fun u i wr => ∃ (m : Nat) (row : Array Value), i = .int .i64 (m : Int) ∧ u = .int .i64 ((k + 2 * m : Nat) : Int) ∧ m ≤ N ∧ Out lo hi w wr ∧ wr.heap[b]? = some (.cells row 99 (0, 0)) ∧ o + N * 2 ≤ row.size ∧
  (∀ j, j < m → ∀ c v, (vlL (markVl (k + 2 * j)))[c]? = some v → row[o + j * 2 + c]? = some v)) (fun _ i _ => N - (intOf i).toNat)
 case atStart => exact ⟨0, row0, rfl, rfl, by omega, Out.refl _ _ _, HG0.out, HS0.out, fun j hj => absurd hj (by omega)⟩
 case round =>
  obtain ⟨m, row, rfl, rfl, hm, hb, hgr, hrs, hdone⟩ := hrel
  have HD := Lib.hid hdone
  have HA := Lib.hid hgr
  have HB := Lib.hid hb
  have HRS := Lib.hid hrs
  clear hdone hgr hb HG0 HS0
  by_cases hmn : m < N
  ·have hi1 : (0 : Int) ≤ (m : Int) := by omega
   have hi2 : (m : Int) < (N : Int) := by omega
   have hq : k + 2 * m + 2 ≤ 30000000 := by omega
   have hroom : o + m * 2 + 2 ≤ row.size := by omega
   have HK := Lib.hid (show k + 2 * (m + 1) = k + 2 * m + 2 by omega)
   obtain ⟨q, eq⟩ : ∃ q, k + 2 * m = q := ⟨_, rfl⟩
   have hq0 : 0 < q := by omega
   have HQ := Lib.hid eq
   rw [eq] at hq HK ⊢
   clear eq
   have w0_ : IntKind.i64.wrap (((q : Nat) : Int) + 1) = ((q + 1 : Nat) : Int) := by rw [IntWalk.i64_in _ (by omega)]; omega
   have w1_ : IntKind.i64.wrap (((q + 1 : Nat) : Int) + 1) = ((q + 2 : Nat) : Int) := by rw [IntWalk.i64_in _ (by omega)]; omega
   generalize e1_ : q + 1 = q1 at *
   generalize e2_ : q + 2 = q2 at *
   obtain ⟨p0, ep0⟩ : ∃ p, o + m * 2 = p := ⟨_, rfl⟩
   have HP := Lib.hid ep0
   obtain ⟨r1, er1⟩ : ∃ r, setAll row (p0) [.int .i64 (q : Int)] = r := ⟨_, rfl⟩
   have sr1 : r1.size = row.size := by rw [← er1, setAll_size]
   obtain ⟨r2, er2⟩ : ∃ r, setAll r1 (p0 + 1) [.int .i64 (q1 : Int)] = r := ⟨_, rfl⟩
   have sr2 : r2.size = row.size := by rw [← er2, setAll_size, sr1]
   have HER := Lib.hid (And.intro er1 er2)
   rw [ep0] at hroom
   have k0 : Nat.ble (p0 + 1) row.size = true := Nat.ble_eq_true_of_le (by omega)
   have k1 : Nat.ble (p0 + 1 + 1) r1.size = true := Nat.ble_eq_true_of_le (by omega)
   have HE := Lib.hid (And.intro e1_ e2_)
   clear er1 er2 e1_ e2_ hrs hk hroom hq sr1
   clear ep0
   go_wp2_with (first
    | (refine wpList_put_at rfl 2 (.tmp 16) (.tmp 14) rfl rfl b (o + m * 2) rfl (.int .i64 (q : Int)) rfl #[.int .i64 (q : Int)] rfl 99 row r1 HA.out (by kernel_rfl) (by rw [HP.out]; exact k0) rfl (by rw [HP.out]; exact HER.out.1) ?_; intro x1 g0 o0; have HA1 := Lib.hid g0; have HB1 := Lib.hid (HB.out.trans (o0.widen hlo hhi)); clear g0 o0)
    | (refine wpList_put_at rfl 2 (.tmp 23) (.tmp 21) rfl rfl b (o + m * 2 + 1) rfl (.int .i64 (q1 : Int)) rfl #[.int .i64 (q1 : Int)] rfl 99 r1 r2 HA1.out (by kernel_rfl) (by rw [HP.out]; exact k1) rfl (by rw [HP.out]; exact HER.out.2) ?_; intro x2 g1 o1; have HA2 := Lib.hid g1; have HB2 := Lib.hid (HB1.out.trans (o1.widen hlo hhi)); clear g1 o1))
   go_roundw
   case rel =>
    refine ⟨m + 1, r2, by go_num, by rw [HK.out], by omega, HB2.out, HA2.out, by rw [sr2]; exact HRS.out, fun j hj c v hv => ?_⟩
    obtain ⟨E1, E2⟩ := HER.out
    obtain ⟨F1, F2⟩ := HE.out
    have hp := HP.out
    have hrs2 := HRS.out
    have hc7 : c < 2 := by
     have := (List.getElem?_eq_some_iff.1 hv).1
     rwa [vlL_len] at this
    rcases Nat.lt_or_ge j m with h | h
    ·have hlt : o + j * 2 + c < p0 := by omega
     rw [← E2, setAll_off _ _ _ _ (.inl (by omega)), ← E1, setAll_off _ _ _ _ (.inl (by omega))]
     exact HD.out j h c v hv
    ·obtain rfl : j = m := by omega
     rw [HQ.out] at hv
     unfold markVl vlL at hv
     dsimp only at hv
     rw [F1] at hv
     rw [hp]
     have z : ∀ (rr : Array Value) (p : Nat) (u : Value), p < rr.size → (setAll rr p [u])[p]? = some u := fun rr p u hp => by
      have := setAll_at [u] rr p 0 u (by show p + 1 ≤ _; omega) rfl
      simpa using this
     have y : ∀ (rr : Array Value) (p p' : Nat) (u : Value), p' < p → (setAll rr p [u])[p']? = rr[p']? := fun rr p p' u hp => setAll_off _ _ _ _ (.inl hp)
     rcases c with _ | _ | c
     ·simp at hv
      subst hv
      rw [← E2, y _ _ _ _ (by omega), ← E1]
      exact z _ _ _ (by have a0 := congrArg Array.size E1; have a1 := congrArg Array.size E2; rw [setAll_size] at a0 a1; omega)
     ·simp at hv
      subst hv
      rw [← E2]
      exact z _ _ _ (by have a0 := congrArg Array.size E1; have a1 := congrArg Array.size E2; rw [setAll_size] at a0 a1; omega)
     ·omega
   case measure => simp [intOf]; omega
  ·have hge : N ≤ m := by omega
   go_wp2_with fail
   go_ret
   refine ⟨by rw [show N = m by omega]; rfl, .inr ⟨b, o, row, rfl, hlo, hhi, HA.out, by rw [marksVl_length]; exact HRS.out, fun i x hx c v hv => ?_⟩, HB.out⟩
   obtain ⟨hi', rfl⟩ := marksVl_at hx
   exact HD.out i (by omega) c v hv
end Go.Proofs.YtioldepgoodipaaGreat
namespace Go.Proofs.YtioldepgoodipaaGreat
open Go.RowKit
set_option linter.unusedVariables false

theorem valB_off {a w : Int} {g : Bool} {k n : Int} (h : fieldB a w = false) : valB a w g k n = false := by simp [valB, h]
theorem valB_num {a w : Int} {g : Bool} {n : Int} (h : fieldB a w = true) : valB a w g 1 n = inB (lowI a w g) (highI a w g) n := by simp [valB, h, inB]
theorem valB_else {a w : Int} {g : Bool} {k n : Int} (h : fieldB a w = true) (hk : ¬ k = 1) : valB a w g k n = (inB 2 3 k && (decide (n = 0) && decide (4 ≤ w))) := by simp [valB, h, hk]
set_option maxRecDepth 100000 in
set_option maxHeartbeats 4000000 in
theorem specValueRight_any (a w : Int) (g : Bool) (k n : Int) (W : World) :
  Calls Tryz.prog 83 #[fdV a w g, vlV k n] W fun e W' => e = .returned (.bool (valB a w g k n)) ∧ Below W.heap.size W W' := by
 have HW : Below W.heap.size W ((W.alloc (.cells #[.int .i64 a, .int .i64 w, .bool g] 147)).alloc (.cells #[.int .i64 k, .int .i64 n] 99)) := ((Below.refl _ _).alloc (Nat.le_refl _) _).alloc (by simp) _
 have hF : ((W.alloc (.cells #[.int .i64 a, .int .i64 w, .bool g] 147)).alloc (.cells #[.int .i64 k, .int .i64 n] 99)).heap[W.heap.size]? = some (.cells #[.int .i64 a, .int .i64 w, .bool g] 147 (0, 0)) := by
  rw [Below.heap_alloc _ _ _ (by simp)]
  exact heap_alloc_new W _
 have hV : ((W.alloc (.cells #[.int .i64 a, .int .i64 w, .bool g] 147)).alloc (.cells #[.int .i64 k, .int .i64 n] 99)).heap[W.heap.size + 1]? = some (.cells #[.int .i64 k, .int .i64 n] 99 (0, 0)) := by
  have := heap_alloc_new (W.alloc (.cells #[.int .i64 a, .int .i64 w, .bool g] 147)) (.cells #[.int .i64 k, .int .i64 n] 99)
  simpa using this
 have HFd := Lib.hid hF
 have HVl := Lib.hid hV
 have HB := Lib.hid HW
 clear hF hV HW
 rcases Bool.eq_false_or_eq_true (fieldB a w) with h1 | h1
 ·by_cases hk : k = 1
  ·subst hk
   have HO := Lib.hid (valB_num (g := g) (n := n) h1)
   have HL := fun U => l07Low_any a w g U h1
   have HH := fun U => l07High_any a w g U h1
   unfold fdV vlV at *
   generalize lowI a w g = lo at *
   generalize highI a w g = hi at *
   go_enter Tryz.func83, Tryz.ntmps83
   go_wp2_with (go_at_call 157; refine (specFieldRight_any _ _ _ _).mono ?_; rintro e w1 ⟨rfl, hb1⟩; obtain ⟨y0, y1, y2⟩ := fdCells ((hb1.block W.heap.size (by simp; omega)).trans HFd.out); obtain ⟨z0, z1⟩ := vlCells ((hb1.block (W.heap.size + 1) (by simp)).trans HVl.out))
   have hl1 : W.heap.size < w1.heap.size := by have := hb1.size; simp at this; omega
   have hl2 : W.heap.size + 1 < w1.heap.size := by have := hb1.size; simp at this; omega
   have HB1 := Lib.hid (HB.out.trans (hb1.mono HB.out.size))
   have HC0 := fun U (hU : Below w1.heap.size w1 U) => Lib.hid (fdCells ((hU.block W.heap.size hl1).trans ((hb1.block W.heap.size (by simp; omega)).trans HFd.out)))
   clear hb1
   refine wp_region_quiet (C := fun U => Below w1.heap.size w1 U) (by kernel_rfl) (by kernel_rfl) (Below.refl _ _).drew ?_
   dsimp only
   go_big_quiet_want; go_big_quiet_op; first | go_big_quiet_on | (refine ⟨_, fun _ _ => rfl, ?_⟩; go_big_quiet_on)
   go_big_quiet_want; refine ⟨.int .i64 n, fun U hU => (by have e1 := (hU.cell (p := ⟨W.heap.size + 1, 1, none⟩) hl2).trans z1; simp [Oper.quietAt, Oper.quietUpon, go_sem, e1]), ?_⟩; simp only [Act.put, List.setIfInBounds_toArray, List.set_cons_zero, List.set_cons_succ]; go_big_quiet_on
   go_big_quiet_want; refine ⟨.agg #[.int .i64 a, .int .i64 w, .bool g], fun U hU => (by obtain ⟨e0, e1, e2⟩ := (HC0 U hU).out; simp [Oper.quietAt, Oper.quietUpon, go_sem, e0, e1, e2]), ?_⟩; simp only [Act.put, List.setIfInBounds_toArray, List.set_cons_zero, List.set_cons_succ]; go_big_quiet_on
   go_big_quiet_want; go_big_quiet_op; refine ⟨_, fun U hU => quietCall hU (HL U), ?_⟩; go_big_quiet_on
   go_big_quiet_want; refine ⟨.agg #[.int .i64 a, .int .i64 w, .bool g], fun U hU => (by obtain ⟨e0, e1, e2⟩ := (HC0 U hU).out; simp [Oper.quietAt, Oper.quietUpon, go_sem, e0, e1, e2]), ?_⟩; simp only [Act.put, List.setIfInBounds_toArray, List.set_cons_zero, List.set_cons_succ]; go_big_quiet_on
   go_big_quiet_want; go_big_quiet_op; refine ⟨_, fun U hU => quietCall hU (HH U), ?_⟩; go_big_quiet_on
   go_big_quiet_want; go_big_quiet_op; refine ⟨_, fun U hU => quietSame hU (l02Is_any n lo hi U), ?_⟩; go_big_quiet_on
   go_big_quiet_want; go_big_quiet_op; first | go_big_quiet_on | (refine ⟨_, fun _ _ => rfl, ?_⟩; go_big_quiet_on)
   refine wpQuiet_nil ?_
   intro X hX
   go_wp2_with fail
   go_ret
   exact ⟨by rw [HO.out]; rfl, HB1.out.trans (hX.mono HB1.out.size)⟩
  ·have HO := Lib.hid (show valB a w g k n = (inB 2 3 k && ((n == 0) && decide (4 ≤ w))) from valB_else h1 hk)
   have hk1 : (k == 1) = false := decide_eq_false hk
   unfold fdV vlV at *
   rcases Bool.eq_false_or_eq_true (inB 2 3 k) with h2 | h2
   ·rcases Bool.eq_false_or_eq_true (n == 0) with h3 | h3
    all_goals
     go_enter Tryz.func83, Tryz.ntmps83
     go_wp2_with (first
      | (go_at_call 157; refine (specFieldRight_any _ _ _ _).mono ?_; rintro e w1 ⟨rfl, hb1⟩; obtain ⟨y0, y1, y2⟩ := fdCells ((hb1.block W.heap.size (by simp; omega)).trans HFd.out); obtain ⟨z0, z1⟩ := vlCells ((hb1.block (W.heap.size + 1) (by simp)).trans HVl.out))
      | (go_at_call 82; refine (l02Is_any _ _ _ _).mono ?_; rintro e w' ⟨rfl, rfl⟩))
     go_ret
     exact ⟨by rw [HO.out, h2, h3]; rfl, HB.out.trans (hb1.mono HB.out.size)⟩
   ·go_enter Tryz.func83, Tryz.ntmps83
    go_wp2_with (first
     | (go_at_call 157; refine (specFieldRight_any _ _ _ _).mono ?_; rintro e w1 ⟨rfl, hb1⟩; obtain ⟨y0, y1, y2⟩ := fdCells ((hb1.block W.heap.size (by simp; omega)).trans HFd.out); obtain ⟨z0, z1⟩ := vlCells ((hb1.block (W.heap.size + 1) (by simp)).trans HVl.out))
     | (go_at_call 82; refine (l02Is_any _ _ _ _).mono ?_; rintro e w' ⟨rfl, rfl⟩))
    go_ret
    exact ⟨by rw [HO.out, h2]; rfl, HB.out.trans (hb1.mono HB.out.size)⟩
 ·have HO := Lib.hid (valB_off (g := g) (k := k) (n := n) h1)
  unfold fdV vlV at *
  go_enter Tryz.func83, Tryz.ntmps83
  go_wp2_with (go_at_call 157; refine (specFieldRight_any _ _ _ _).mono ?_; rintro e w1 ⟨rfl, hb1⟩; obtain ⟨y0, y1, y2⟩ := fdCells ((hb1.block W.heap.size (by simp; omega)).trans HFd.out); obtain ⟨z0, z1⟩ := vlCells ((hb1.block (W.heap.size + 1) (by simp)).trans HVl.out))
  go_ret
  exact ⟨by rw [HO.out]; rfl, HB.out.trans (hb1.mono HB.out.size)⟩
-- generated

theorem twoF (W : World) (a w : Int) (g : Bool) (k n : Int) : ((W.alloc (.cells #[.int .i64 a, .int .i64 w, .bool g] 147)).alloc (.cells #[.int .i64 k, .int .i64 n] 99)).heap[W.heap.size]? = some (.cells #[.int .i64 a, .int .i64 w, .bool g] 147 (0, 0)) := by
 rw [Below.heap_alloc _ _ _ (by simp)]
 exact heap_alloc_new W _
theorem twoV (W : World) (a w : Int) (g : Bool) (k n : Int) : ((W.alloc (.cells #[.int .i64 a, .int .i64 w, .bool g] 147)).alloc (.cells #[.int .i64 k, .int .i64 n] 99)).heap[W.heap.size + 1]? = some (.cells #[.int .i64 k, .int .i64 n] 99 (0, 0)) := by
 have := heap_alloc_new (W.alloc (.cells #[.int .i64 a, .int .i64 w, .bool g] 147)) (.cells #[.int .i64 k, .int .i64 n] 99)
 simpa using this
theorem twoB (W : World) (a w : Int) (g : Bool) (k n : Int) : Below W.heap.size W ((W.alloc (.cells #[.int .i64 a, .int .i64 w, .bool g] 147)).alloc (.cells #[.int .i64 k, .int .i64 n] 99)) := ((Below.refl _ _).alloc (Nat.le_refl _) _).alloc (by simp) _
set_option maxRecDepth 100000 in
set_option maxHeartbeats 4000000 in
theorem implValueRight_any (a w : Int) (g : Bool) (k n : Int) (W : World) :
  Calls Tryz.prog 163 #[fdV a w g, vlV k n] W fun e W' => e = .returned (.bool (valB a w g k n)) ∧ Below W.heap.size W W' := by
 have HFd := Lib.hid (twoF W a w g k n)
 have HVl := Lib.hid (twoV W a w g k n)
 have HB := Lib.hid (twoB W a w g k n)
 rcases Bool.eq_false_or_eq_true (fieldB a w) with h1 | h1
 ·by_cases hk : k = 1
  ·subst hk
   have HO := Lib.hid (valB_num (g := g) (n := n) h1)
   have HL := fun U => implLowOf_any a w g U
   have HH := fun U => implHighOf_any a w g U
   unfold fdV vlV at *
   generalize lowI a w g = lo at *
   generalize highI a w g = hi at *
   rcases Bool.eq_false_or_eq_true (decide (lo ≤ n)) with h2 | h2
   ·go_enter Tryz.func163, Tryz.ntmps163
    go_wp2_with (go_at_call 206; refine (implFieldRight_any _ _ _ _).mono ?_; rintro e w1 ⟨rfl, hb1⟩; obtain ⟨y0, y1, y2⟩ := fdCells ((hb1.block W.heap.size (by simp; omega)).trans HFd.out); obtain ⟨z0, z1⟩ := vlCells ((hb1.block (W.heap.size + 1) (by simp)).trans HVl.out))
    have hl1 : W.heap.size < w1.heap.size := by have := hb1.size; simp at this; omega
    have hl2 : W.heap.size + 1 < w1.heap.size := by have := hb1.size; simp at this; omega
    have HB1 := Lib.hid (HB.out.trans (hb1.mono HB.out.size))
    have HC0 := fun U (hU : Below w1.heap.size w1 U) => Lib.hid (fdCells ((hU.block W.heap.size hl1).trans ((hb1.block W.heap.size (by simp; omega)).trans HFd.out)))
    have HC1 := fun U (hU : Below w1.heap.size w1 U) => Lib.hid (vlCells ((hU.block (W.heap.size + 1) hl2).trans ((hb1.block (W.heap.size + 1) (by simp)).trans HVl.out)))
    clear hb1
    refine wp_region_quiet (C := fun U => Below w1.heap.size w1 U) (by kernel_rfl) (by kernel_rfl) (Below.refl _ _).drew ?_
    dsimp only
    go_big_quiet_want; go_big_quiet_op; first | go_big_quiet_on | (refine ⟨_, fun _ _ => rfl, ?_⟩; go_big_quiet_on)
    go_big_quiet_want; refine ⟨.int .i64 n, fun U hU => (by obtain ⟨e0, e1⟩ := (HC1 U hU).out; simp [Oper.quietAt, Oper.quietUpon, go_sem, e1]), ?_⟩; simp only [Act.put, List.setIfInBounds_toArray, List.set_cons_zero, List.set_cons_succ]; go_big_quiet_on
    go_big_quiet_want; refine ⟨.agg #[.int .i64 a, .int .i64 w, .bool g], fun U hU => (by obtain ⟨e0, e1, e2⟩ := (HC0 U hU).out; simp [Oper.quietAt, Oper.quietUpon, go_sem, e0, e1, e2]), ?_⟩; simp only [Act.put, List.setIfInBounds_toArray, List.set_cons_zero, List.set_cons_succ]; go_big_quiet_on
    go_big_quiet_want; go_big_quiet_op; refine ⟨_, fun U hU => quietCall hU (HL U), ?_⟩; go_big_quiet_on
    iterate 3 (go_big_quiet_want; go_big_quiet_op; first | go_big_quiet_on | (refine ⟨_, fun _ _ => rfl, ?_⟩; go_big_quiet_on))
    go_big_quiet_want; refine ⟨.int .i64 n, fun U hU => (by obtain ⟨e0, e1⟩ := (HC1 U hU).out; simp [Oper.quietAt, Oper.quietUpon, go_sem, e1]), ?_⟩; simp only [Act.put, List.setIfInBounds_toArray, List.set_cons_zero, List.set_cons_succ]; go_big_quiet_on
    go_big_quiet_want; refine ⟨.agg #[.int .i64 a, .int .i64 w, .bool g], fun U hU => (by obtain ⟨e0, e1, e2⟩ := (HC0 U hU).out; simp [Oper.quietAt, Oper.quietUpon, go_sem, e0, e1, e2]), ?_⟩; simp only [Act.put, List.setIfInBounds_toArray, List.set_cons_zero, List.set_cons_succ]; go_big_quiet_on
    go_big_quiet_want; go_big_quiet_op; refine ⟨_, fun U hU => quietCall hU (HH U), ?_⟩; go_big_quiet_on
    iterate 3 (go_big_quiet_want; go_big_quiet_op; first | go_big_quiet_on | (refine ⟨_, fun _ _ => rfl, ?_⟩; go_big_quiet_on))
    refine wpQuiet_nil ?_
    intro X hX
    go_wp2_with fail
    go_ret
    exact ⟨by rw [HO.out]; first | rfl | (unfold inB; rw [h2]; rfl), HB1.out.trans (hX.mono HB1.out.size)⟩
   ·go_enter Tryz.func163, Tryz.ntmps163
    go_wp2_with (go_at_call 206; refine (implFieldRight_any _ _ _ _).mono ?_; rintro e w1 ⟨rfl, hb1⟩; obtain ⟨y0, y1, y2⟩ := fdCells ((hb1.block W.heap.size (by simp; omega)).trans HFd.out); obtain ⟨z0, z1⟩ := vlCells ((hb1.block (W.heap.size + 1) (by simp)).trans HVl.out))
    have hl1 : W.heap.size < w1.heap.size := by have := hb1.size; simp at this; omega
    have hl2 : W.heap.size + 1 < w1.heap.size := by have := hb1.size; simp at this; omega
    have HB1 := Lib.hid (HB.out.trans (hb1.mono HB.out.size))
    have HC0 := fun U (hU : Below w1.heap.size w1 U) => Lib.hid (fdCells ((hU.block W.heap.size hl1).trans ((hb1.block W.heap.size (by simp; omega)).trans HFd.out)))
    have HC1 := fun U (hU : Below w1.heap.size w1 U) => Lib.hid (vlCells ((hU.block (W.heap.size + 1) hl2).trans ((hb1.block (W.heap.size + 1) (by simp)).trans HVl.out)))
    clear hb1
    refine wp_region_quiet (C := fun U => Below w1.heap.size w1 U) (by kernel_rfl) (by kernel_rfl) (Below.refl _ _).drew ?_
    dsimp only
    go_big_quiet_want; go_big_quiet_op; first | go_big_quiet_on | (refine ⟨_, fun _ _ => rfl, ?_⟩; go_big_quiet_on)
    go_big_quiet_want; refine ⟨.int .i64 n, fun U hU => (by obtain ⟨e0, e1⟩ := (HC1 U hU).out; simp [Oper.quietAt, Oper.quietUpon, go_sem, e1]), ?_⟩; simp only [Act.put, List.setIfInBounds_toArray, List.set_cons_zero, List.set_cons_succ]; go_big_quiet_on
    go_big_quiet_want; refine ⟨.agg #[.int .i64 a, .int .i64 w, .bool g], fun U hU => (by obtain ⟨e0, e1, e2⟩ := (HC0 U hU).out; simp [Oper.quietAt, Oper.quietUpon, go_sem, e0, e1, e2]), ?_⟩; simp only [Act.put, List.setIfInBounds_toArray, List.set_cons_zero, List.set_cons_succ]; go_big_quiet_on
    go_big_quiet_want; go_big_quiet_op; refine ⟨_, fun U hU => quietCall hU (HL U), ?_⟩; go_big_quiet_on
    iterate 2 (go_big_quiet_want; go_big_quiet_op; first | go_big_quiet_on | (refine ⟨_, fun _ _ => rfl, ?_⟩; go_big_quiet_on))
    iterate 7 (first | go_big_quiet_skip | (go_big_quiet_want; go_big_quiet_op; first | go_big_quiet_on | (refine ⟨_, fun _ _ => rfl, ?_⟩; go_big_quiet_on)))
    refine wpQuiet_nil ?_
    intro X hX
    go_wp2_with fail
    go_ret
    exact ⟨by rw [HO.out]; first | rfl | (unfold inB; rw [h2]; rfl), HB1.out.trans (hX.mono HB1.out.size)⟩
  ·have HO := Lib.hid (show valB a w g k n = (inB 2 3 k && ((n == 0) && decide (4 ≤ w))) from valB_else h1 hk)
   have hk1 : (k == 1) = false := decide_eq_false hk
   unfold fdV vlV at *
   by_cases hk2 : k = 2
   ·subst hk2
    have h2 : inB 2 3 2 = true := rfl
    rcases Bool.eq_false_or_eq_true (n == 0) with h3 | h3
    all_goals
     go_enter Tryz.func163, Tryz.ntmps163
     go_wp2_with (go_at_call 206; refine (implFieldRight_any _ _ _ _).mono ?_; rintro e w1 ⟨rfl, hb1⟩; obtain ⟨y0, y1, y2⟩ := fdCells ((hb1.block W.heap.size (by simp; omega)).trans HFd.out); obtain ⟨z0, z1⟩ := vlCells ((hb1.block (W.heap.size + 1) (by simp)).trans HVl.out))
     go_ret
     exact ⟨by rw [HO.out, h2, h3]; rfl, HB.out.trans (hb1.mono HB.out.size)⟩
   ·have hd2 : (k == 2) = false := decide_eq_false hk2
    by_cases hk3 : k = 3
    ·subst hk3
     have h2 : inB 2 3 3 = true := rfl
     rcases Bool.eq_false_or_eq_true (n == 0) with h3 | h3
     all_goals
      go_enter Tryz.func163, Tryz.ntmps163
      go_wp2_with (go_at_call 206; refine (implFieldRight_any _ _ _ _).mono ?_; rintro e w1 ⟨rfl, hb1⟩; obtain ⟨y0, y1, y2⟩ := fdCells ((hb1.block W.heap.size (by simp; omega)).trans HFd.out); obtain ⟨z0, z1⟩ := vlCells ((hb1.block (W.heap.size + 1) (by simp)).trans HVl.out))
      go_ret
      exact ⟨by rw [HO.out, h2, h3]; rfl, HB.out.trans (hb1.mono HB.out.size)⟩
    ·have h2 : inB 2 3 k = false := inB_no (by omega)
     have hd3 : (k == 3) = false := decide_eq_false hk3
     go_enter Tryz.func163, Tryz.ntmps163
     go_wp2_with (go_at_call 206; refine (implFieldRight_any _ _ _ _).mono ?_; rintro e w1 ⟨rfl, hb1⟩; obtain ⟨y0, y1, y2⟩ := fdCells ((hb1.block W.heap.size (by simp; omega)).trans HFd.out); obtain ⟨z0, z1⟩ := vlCells ((hb1.block (W.heap.size + 1) (by simp)).trans HVl.out))
     go_ret
     exact ⟨by rw [HO.out, h2]; rfl, HB.out.trans (hb1.mono HB.out.size)⟩
 ·have HO := Lib.hid (valB_off (g := g) (k := k) (n := n) h1)
  unfold fdV vlV at *
  go_enter Tryz.func163, Tryz.ntmps163
  go_wp2_with (go_at_call 206; refine (implFieldRight_any _ _ _ _).mono ?_; rintro e w1 ⟨rfl, hb1⟩; obtain ⟨y0, y1, y2⟩ := fdCells ((hb1.block W.heap.size (by simp; omega)).trans HFd.out); obtain ⟨z0, z1⟩ := vlCells ((hb1.block (W.heap.size + 1) (by simp)).trans HVl.out))
  go_ret
  exact ⟨by rw [HO.out]; rfl, HB.out.trans (hb1.mono HB.out.size)⟩
end Go.Proofs.YtioldepgoodipaaGreat
namespace Go.Proofs.YtioldepgoodipaaGreat
open Go.RowKit
set_option linter.unusedVariables false

def vrAt (F : List Fd) (l : List Vl) (i : Nat) : Bool := valB (fdAt F i).a (fdAt F i).w (fdAt F i).g (vlAt l i).k (vlAt l i).v
def vrF (there : Bool) (F : List Fd) (l : List Vl) : Bool := there && (decide (l.length = F.length) && (List.range F.length).all (vrAt F l))
def vrB (p : Int) (l : List Vl) : Bool := vrF (decide (ixD p < 6)) (defD p).fs l
theorem vrF_len {h : Bool} {F : List Fd} {l : List Vl} (hn : ¬ l.length = F.length) : vrF h F l = false := by simp [vrF, hn]
theorem vrF_no {h : Bool} {F : List Fd} {l : List Vl} {i : Nat} (hi : i < F.length) (hv : vrAt F l i = false) : vrF h F l = false := by
 unfold vrF
 rw [Bool.and_eq_false_iff, Bool.and_eq_false_iff]
 right; right
 rw [List.all_eq_false]
 exact ⟨i, by simpa using hi, by rw [hv]; simp⟩
theorem vrF_yes {F : List Fd} {l : List Vl} (hn : l.length = F.length) (hv : ∀ i, i < F.length → vrAt F l i = true) : vrF true F l = true := by
 unfold vrF
 rw [Bool.true_and, decide_eq_true hn, Bool.true_and, List.all_eq_true]
 exact fun i hi => hv i (by simpa using hi)
theorem vrF_of {h : Bool} {F : List Fd} {l : List Vl} (hv : vrF h F l = true) : h = true ∧ l.length = F.length ∧ ∀ i, i < F.length → vrAt F l i = true := by
 unfold vrF at hv
 rw [Bool.and_eq_true, Bool.and_eq_true, List.all_eq_true] at hv
 exact ⟨hv.1, of_decide_eq_true hv.2.1, fun i hi => hv.2.2 i (by simpa using hi)⟩
theorem vr_next {F : List Fd} {l : List Vl} {k : Nat} (h : ∀ i, i < k → vrAt F l i = true) (hk : vrAt F l k = true) : ∀ i, i < k + 1 → vrAt F l i = true := by
 intro i hi
 rcases Nat.lt_or_ge i k with h' | h'
 ·exact h i h'
 ·obtain rfl : i = k := by omega
  exact hk
theorem defD_s (p : Int) : (ixD p < 6 → (defD p).s = 8 ∨ (defD p).s = 14) ∧ (¬ ixD p < 6 → (defD p).s = 0 ∧ (defD p).fs = []) := by
 have h := ixD_le p
 unfold defD
 generalize ixD p = i at *
 rcases i with _ | _ | _ | _ | _ | _ | _ | i
 all_goals first | exact ⟨fun _ => .inl rfl, fun h => absurd (by decide) h⟩ | exact ⟨fun _ => .inr rfl, fun h => absurd (by decide) h⟩ | exact ⟨fun h => absurd h (by decide), fun _ => ⟨rfl, rfl⟩⟩ | omega
theorem defD_in (p : Int) {i : Nat} (hi : i < (defD p).fs.length) : ∃ a w : Nat, (fdAt (defD p).fs i).a = a ∧ (fdAt (defD p).fs i).w = w ∧ a ≤ 1800 ∧ 1 ≤ w ∧ w ≤ 32 ∧ ((a + w : Nat) : Int) ≤ 8 * (defD p).s := by
 have h := ixD_le p
 have h5 := defD_len p
 unfold defD at *
 generalize ixD p = j at *
 rcases j with _ | _ | _ | _ | _ | _ | _ | j
 all_goals first | omega | skip
 all_goals rcases i with _ | _ | _ | _ | _ | i
 all_goals first | exact ⟨_, _, rfl, rfl, by decide, by decide, by decide, by decide⟩ | exact absurd hi (by decide) | omega
theorem hasB_lit {s : ByteArray} {A B : Nat} (h1 : A ≤ 1800) (h2 : 1 ≤ B) (h3 : B ≤ 32) (h4 : A + B ≤ 8 * s.size) : hasB s (A : Int) (B : Int) = true := by
 unfold hasB fieldB inB
 simp only [Bool.and_eq_true, decide_eq_true_eq]
 omega
theorem rowAt0 {W0 W : World} {g : Nat} {row : List Value} {t : TypeId} (hg : W0.heap[g]? = some (.cells row.toArray t (0, 0))) (hW : Below W0.heap.size W0 W) : ∀ (j : Nat) v, row[j]? = some v → W.cell? ⟨g, 0 + j, none⟩ = some v :=
 fun j v hv => rowCells hg hW (0 + j) v (by rw [Nat.zero_add]; simpa using hv)
set_option maxRecDepth 100000 in
set_option maxHeartbeats 8000000 in
theorem implValuesRight_any (p : Int) (a2 : Option Addr) (c2 : Nat) (l : List Vl) (w : World) (hl : RsIn vlL 2 w a2 l) (hlen : l.length ≤ maxLen) :
  Calls Tryz.prog 98 #[.int .i64 p, .slice a2 l.length c2] w fun e w' => e = .returned (.bool (vrB p l)) ∧ Below w.heap.size w w' := by
 unfold maxLen at hlen
 have HRow := fun B G W h => Lib.hid (rowOf_d B G p W h)
 have HN := Lib.hid (fun B G W lo hi h1 h2 h3 => @flds_new B G W lo hi h1 h2 h3 p)
 have hF5 := defD_len p
 unfold vrB
 generalize defD p = d at *
 obtain ⟨P, S, R, F⟩ := d
 dsimp only at *
 obtain ⟨V, hV⟩ : ∃ V, vrF (decide (ixD p < 6)) F l = V := ⟨_, rfl⟩
 have hVn := fun hn => hV.symm.trans (@vrF_len (decide (ixD p < 6)) F l hn)
 have hVi := fun i hi hv => hV.symm.trans (@vrF_no (decide (ixD p < 6)) F l i hi hv)
 have hVy : decide (ixD p < 6) = true → l.length = F.length → (∀ i, i < F.length → vrAt F l i = true) → V = true := fun h1 h2 h3 => hV.symm.trans (by rw [h1]; exact vrF_yes h2 h3)
 have hV0 : decide (ixD p < 6) = false → V = false := fun h1 => hV.symm.trans (by rw [h1]; rfl)
 rw [hV]
 clear hV
 have HLv := Lib.hid hl
 clear hl
 obtain ⟨N, hN⟩ : ∃ N, F.length = N := ⟨_, rfl⟩
 obtain ⟨M, hM⟩ : ∃ M, l.length = M := ⟨_, rfl⟩
 have HNl := Lib.hid hN
 have HMl := Lib.hid hM
 rw [hN] at HRow hF5 hVn hVi hVy
 rw [hM] at hlen hVn hVy ⊢
 generalize decide (ixD p < 6) = there at *
 have HV0 := Lib.hid hV0
 have HVn := Lib.hid hVn
 have HVi := Lib.hid hVi
 have HVy := Lib.hid hVy
 clear hN hM hV0 hVn hVi hVy
 go_enter Tryz.func98, Tryz.ntmps98
 go_wp2_with fail
 refine (defs_any _).mono ?_
 rintro e w1 ⟨G, rfl, hT, h⟩
 obtain ⟨L1, e1⟩ : ∃ x, w.heap.size = x := ⟨_, rfl⟩
 obtain ⟨H1, f1⟩ : ∃ x, w1.heap.size = x := ⟨_, rfl⟩
 have qH1_L1 : L1 ≤ H1 := (by rw [← e1, ← f1]; exact h.size)
 have HL1 := Lib.hid (show Lg w w1 [] [(L1, H1, fun W => RsNew fdL 3 147 L1 H1 W (aD L1 p) F)] from (Lg.first w).made e1 f1 h (by rw [← e1, ← f1]; exact (HN.out _ _ _ _ _ hT (Nat.le_refl _) hT.hi).solid))
 have HT1 := Lib.hid (show TabAt L1 G w1 from by rw [← e1]; exact hT)
 clear h hT e1 f1
 go_wp2_with fail
 refine ((HRow _ _ _ HT1.out).out).mono ?_
 rintro e w2 ⟨rfl, h⟩
 have HL2 := Lib.hid (show Lg w w2 [] [(L1, H1, fun W => RsNew fdL 3 147 L1 H1 W (aD L1 p) F)] from HL1.out.kept h)
 clear h
 rcases there with _ | _
 ·have hv := HV0.out rfl
  go_wp2_with (first
   | (refine wpList_alloc_h rfl 81 rfl (.agg #[.int .i64 0, .int .i64 0, .int .i64 0, .slice none 0 0]) (by kernel_rfl) #[.int .i64 0, .int .i64 0, .int .i64 0, .slice none 0 0] rfl ?_; intro w3 R3 e3 g3 b3; have qR3_H1 : H1 ≤ R3 := Nat.le_trans (HL2.out.hi (.head _)).2 (Nat.le_of_eq e3); have HL3 := Lib.hid (show Lg w w3 [(R3, #[.int .i64 0, .int .i64 0, .int .i64 0, .slice none 0 0], 81)] [(L1, H1, fun W => RsNew fdL 3 147 L1 H1 W (aD L1 p) F)] from HL2.out.box e3 g3 b3); clear g3 b3 e3)
   | (refine wpList_put_at rfl 81 (.tmp 5) (.tmp 13) rfl rfl (R3) 0 rfl _ rfl #[.int .i64 P, .int .i64 S, .int .i64 R, .slice (aD L1 p) N N] rfl 81 #[.int .i64 0, .int .i64 0, .int .i64 0, .slice none 0 0] #[.int .i64 P, .int .i64 S, .int .i64 R, .slice (aD L1 p) N N] (HL3.out.get (.head _)) (by kernel_rfl) (by kernel_rfl) (by kernel_rfl) (by kernel_rfl) ?_; intro w4 g4 o4; have HL4 := Lib.hid (show Lg w w4 [(R3, #[.int .i64 P, .int .i64 S, .int .i64 R, .slice (aD L1 p) N N], 81)] [(L1, H1, fun W => RsNew fdL 3 147 L1 H1 W (aD L1 p) F)] from HL3.out.put 0 rfl g4 o4 (fun _ h => nomatch h) (List.forall_mem_cons.2 ⟨.inl qR3_H1, (fun _ h => nomatch h)⟩) rfl); clear g4 o4))
  go_ret
  exact ⟨by first | rfl | (rw [hv]; rfl), HL4.out.below⟩
 by_cases hMN : M = N
 ·obtain rfl : N = M := hMN.symm
  have e1 : ((N : Int) != (N : Int)) = false := by simp
  go_wp2_with (first
   | (refine wpList_alloc_h rfl 81 rfl (.agg #[.int .i64 0, .int .i64 0, .int .i64 0, .slice none 0 0]) (by kernel_rfl) #[.int .i64 0, .int .i64 0, .int .i64 0, .slice none 0 0] rfl ?_; intro w3 R3 e3 g3 b3; have qR3_H1 : H1 ≤ R3 := Nat.le_trans (HL2.out.hi (.head _)).2 (Nat.le_of_eq e3); have HL3 := Lib.hid (show Lg w w3 [(R3, #[.int .i64 0, .int .i64 0, .int .i64 0, .slice none 0 0], 81)] [(L1, H1, fun W => RsNew fdL 3 147 L1 H1 W (aD L1 p) F)] from HL2.out.box e3 g3 b3); clear g3 b3 e3)
   | (refine wpList_put_at rfl 81 (.tmp 5) (.tmp 13) rfl rfl (R3) 0 rfl _ rfl #[.int .i64 P, .int .i64 S, .int .i64 R, .slice (aD L1 p) N N] rfl 81 #[.int .i64 0, .int .i64 0, .int .i64 0, .slice none 0 0] #[.int .i64 P, .int .i64 S, .int .i64 R, .slice (aD L1 p) N N] (HL3.out.get (.head _)) (by kernel_rfl) (by kernel_rfl) (by kernel_rfl) (by kernel_rfl) ?_; intro w4 g4 o4; have HL4 := Lib.hid (show Lg w w4 [(R3, #[.int .i64 P, .int .i64 S, .int .i64 R, .slice (aD L1 p) N N], 81)] [(L1, H1, fun W => RsNew fdL 3 147 L1 H1 W (aD L1 p) F)] from HL3.out.put 0 rfl g4 o4 (fun _ h => nomatch h) (List.forall_mem_cons.2 ⟨.inl qR3_H1, (fun _ h => nomatch h)⟩) rfl); clear g4 o4)
   | (refine wpList_load_one rfl 79 (.tmp 20) rfl (R3) 3 rfl 81 #[.int .i64 P, .int .i64 S, .int .i64 R, .slice (aD L1 p) N N] (0, 0) (HL4.out.get (.head _)) (.slice (aD L1 p) N N) rfl _ Tryz.underlying79 rfl (by kernel_rfl) ?_)
   | (refine wpList_load_one rfl 79 (.tmp 25) rfl (R3) 3 rfl 81 #[.int .i64 P, .int .i64 S, .int .i64 R, .slice (aD L1 p) N N] (0, 0) (HL4.out.get (.head _)) (.slice (aD L1 p) N N) rfl _ Tryz.underlying79 rfl (by kernel_rfl) ?_))
  have HFl := Lib.hid (HL4.out.at (.head _)).ins
  have HBp := Lib.hid HL4.out.below
  have HLq := Lib.hid (HLv.out.kept HBp.out)
  clear HL1 HL2 HL3 HL4 HT1 HLv
  go_loopw [28] (fun i wr => ∃ k : Nat, i = .int .i64 (k : Int) ∧ k ≤ N ∧ (∀ i, i < k → vrAt F l i = true) ∧ Below w4.heap.size w4 wr) (fun i _ => N - (intOf i).toNat)
  case atStart => exact ⟨0, rfl, by omega, fun i hi => absurd hi (by omega), Below.refl _ _⟩
  case round =>
   obtain ⟨k, rfl, hk, hall, hb⟩ := hrel
   have HA := Lib.hid hall
   clear hall
   by_cases hkn : k < N
   ·have hi1 : (0 : Int) ≤ (k : Int) := by omega
    have hi2 : (k : Int) < (N : Int) := by omega
    have hkF : k < F.length := by have := HNl.out; omega
    have hkl : k < l.length := by have := HMl.out; omega
    obtain ⟨b, o, ha, hlt, hc⟩ := HFl.out.at (by omega)
    obtain ⟨b2, o2, rfl, hlt2, hc2⟩ := HLq.out.at (by omega)
    rw [ha]
    have lv : b2 < wr.heap.size := Nat.lt_of_lt_of_le hlt2 hb.size
    have HCf := Lib.hid (fun j v hv => (hb.cell (p := ⟨b, _, none⟩) hlt).trans (hc k _ (fdAt_some hkF) j v hv))
    have HCv := Lib.hid (fun j v hv => (hb.cell (p := ⟨b2, _, none⟩) hlt2).trans (hc2 k _ (vlAt_some hkl) j v hv))
    have HNx := Lib.hid (@vr_next F l k HA.out)
    have HNo := Lib.hid (HVi.out k hkn)
    have HVR := fun W => Lib.hid (implValueRight_any (fdAt F k).a (fdAt F k).w (fdAt F k).g (vlAt l k).k (vlAt l k).v W)
    unfold vrAt at HNx HNo
    clear hc hc2
    generalize fdAt F k = x at *
    generalize vlAt l k = y at *
    obtain ⟨fa, fw, fg⟩ := x
    obtain ⟨vk, vn⟩ := y
    unfold fdL at HCf
    unfold vlL at HCv
    unfold fdV vlV at HVR
    dsimp only at *
    generalize valB fa fw fg vk vn = Y at *
    go_wp2_with (first
     | (refine wpList_load_cells rfl 147 (.tmp 31) rfl b (o + k * 3) rfl [.int .i64 fa, .int .i64 fw, .bool fg] HCf.out _ Tryz.underlying147 rfl (by kernel_rfl) ?_)
     | (refine wpList_alloc_h rfl 147 rfl (.agg #[.int .i64 0, .int .i64 0, .bool false]) (by kernel_rfl) #[.int .i64 0, .int .i64 0, .bool false] rfl ?_; intro w1 qR1 e1 g1 b1; have HL1 := Lib.hid (show Lg wr w1 [(qR1, #[.int .i64 0, .int .i64 0, .bool false], 147)] [] from (Lg.first wr).box e1 g1 b1); clear g1 b1 e1)
     | (refine wpList_put_at rfl 147 (.tmp 8) (.tmp 32) rfl rfl (qR1) 0 rfl (.agg #[.int .i64 fa, .int .i64 fw, .bool fg]) rfl #[.int .i64 fa, .int .i64 fw, .bool fg] rfl 147 #[.int .i64 0, .int .i64 0, .bool false] #[.int .i64 fa, .int .i64 fw, .bool fg] (HL1.out.get (.head _)) (by kernel_rfl) (by kernel_rfl) (by kernel_rfl) (by kernel_rfl) ?_; intro w2 g2 o2; have HL2 := Lib.hid (show Lg wr w2 [(qR1, #[.int .i64 fa, .int .i64 fw, .bool fg], 147)] [] from HL1.out.put 0 rfl g2 o2 (fun _ h => nomatch h) (fun _ h => nomatch h) rfl); clear g2 o2))
    refine wp_region_quiet (C := fun W => Below w2.heap.size w2 W) (by kernel_rfl) (by kernel_rfl) (Below.refl _ _).drew ?_
    dsimp only
    go_big_quiet_want; refine ⟨.agg #[.int .i64 fa, .int .i64 fw, .bool fg], fun W hW => (quietLoadCells 147 (.tmp 8) rfl qR1 0 rfl [.int .i64 fa, .int .i64 fw, .bool fg] (rowAt0 (HL2.out.get (.head _)) hW) _ Tryz.underlying147 rfl (by kernel_rfl)), ?_⟩; simp only [Act.put, List.setIfInBounds_toArray, List.set_cons_zero, List.set_cons_succ]; go_big_quiet_on
    iterate 3 (go_big_quiet_want; go_big_quiet_op; first | go_big_quiet_on | (refine ⟨_, fun _ _ => rfl, ?_⟩; go_big_quiet_on))
    go_big_quiet_want; refine ⟨.agg #[.int .i64 vk, .int .i64 vn], fun W hW => (quietLoadCells 99 (.tmp 36) rfl b2 (o2 + k * 2) rfl [.int .i64 vk, .int .i64 vn] (grownCells (Nat.lt_of_lt_of_le lv HL2.out.below.size) (fun j v hv => (HL2.out.below.cell (p := ⟨b2, _, none⟩) lv).trans (HCv.out j v hv)) hW) _ Tryz.underlying99 rfl (by kernel_rfl)), ?_⟩; simp only [Act.put, List.setIfInBounds_toArray, List.set_cons_zero, List.set_cons_succ]; go_big_quiet_on
    go_big_quiet_want; go_big_quiet_op; refine ⟨_, fun W hW => quietCall hW (HVR W).out, ?_⟩; go_big_quiet_on
    go_big_quiet_want; go_big_quiet_op; first | go_big_quiet_on | (refine ⟨_, fun _ _ => rfl, ?_⟩; go_big_quiet_on)
    refine wpQuiet_nil ?_
    intro X hX
    have hbX := hb.trans ((HL2.out.below.trans (hX.mono HL2.out.below.size)).mono hb.size)
    rcases Y with _ | _
    ·have hv := HNo.out rfl
     go_wp2_with fail
     go_ret
     exact ⟨by first | rfl | (rw [hv]; rfl), HBp.out.trans (hbX.mono HBp.out.size)⟩
    ·have HN2 := Lib.hid (HNx.out rfl)
     go_wp2_with fail
     go_roundw
     case rel => exact ⟨k + 1, by go_num, by omega, HN2.out, hbX⟩
     case measure => simp [intOf]; omega
   ·have hv := HVy.out (by trivial) (by trivial) (fun i hi => HA.out i (by omega))
    go_wp2_with fail
    go_ret
    exact ⟨by first | rfl | (rw [hv]; rfl), HBp.out.trans (hb.mono HBp.out.size)⟩
 ·have hv := HVn.out hMN
  have e1 : ((M : Int) != (N : Int)) = true := by simp; omega
  go_wp2_with (first
   | (refine wpList_alloc_h rfl 81 rfl (.agg #[.int .i64 0, .int .i64 0, .int .i64 0, .slice none 0 0]) (by kernel_rfl) #[.int .i64 0, .int .i64 0, .int .i64 0, .slice none 0 0] rfl ?_; intro w3 R3 e3 g3 b3; have qR3_H1 : H1 ≤ R3 := Nat.le_trans (HL2.out.hi (.head _)).2 (Nat.le_of_eq e3); have HL3 := Lib.hid (show Lg w w3 [(R3, #[.int .i64 0, .int .i64 0, .int .i64 0, .slice none 0 0], 81)] [(L1, H1, fun W => RsNew fdL 3 147 L1 H1 W (aD L1 p) F)] from HL2.out.box e3 g3 b3); clear g3 b3 e3)
   | (refine wpList_put_at rfl 81 (.tmp 5) (.tmp 13) rfl rfl (R3) 0 rfl _ rfl #[.int .i64 P, .int .i64 S, .int .i64 R, .slice (aD L1 p) N N] rfl 81 #[.int .i64 0, .int .i64 0, .int .i64 0, .slice none 0 0] #[.int .i64 P, .int .i64 S, .int .i64 R, .slice (aD L1 p) N N] (HL3.out.get (.head _)) (by kernel_rfl) (by kernel_rfl) (by kernel_rfl) (by kernel_rfl) ?_; intro w4 g4 o4; have HL4 := Lib.hid (show Lg w w4 [(R3, #[.int .i64 P, .int .i64 S, .int .i64 R, .slice (aD L1 p) N N], 81)] [(L1, H1, fun W => RsNew fdL 3 147 L1 H1 W (aD L1 p) F)] from HL3.out.put 0 rfl g4 o4 (fun _ h => nomatch h) (List.forall_mem_cons.2 ⟨.inl qR3_H1, (fun _ h => nomatch h)⟩) rfl); clear g4 o4)
   | (refine wpList_load_one rfl 79 (.tmp 20) rfl (R3) 3 rfl 81 #[.int .i64 P, .int .i64 S, .int .i64 R, .slice (aD L1 p) N N] (0, 0) (HL4.out.get (.head _)) (.slice (aD L1 p) N N) rfl _ Tryz.underlying79 rfl (by kernel_rfl) ?_))
  go_ret
  exact ⟨by first | rfl | (rw [hv]; rfl), HL4.out.below⟩
set_option maxRecDepth 100000 in
set_option maxHeartbeats 8000000 in
theorem specValuesRight_any (p : Int) (a2 : Option Addr) (c2 : Nat) (l : List Vl) (w : World) (hl : RsIn vlL 2 w a2 l) (hlen : l.length ≤ maxLen) :
  Calls Tryz.prog 32 #[.int .i64 p, .slice a2 l.length c2] w fun e w' => e = .returned (.bool (vrB p l)) ∧ Below w.heap.size w w' := by
 unfold maxLen at hlen
 have HD := fun W => Lib.hid (specDefOf_any p W)
 unfold DefOut at HD
 have hF5 := defD_len p
 have hS := defD_s p
 unfold vrB
 generalize defD p = d at *
 obtain ⟨P, S, R, F⟩ := d
 dsimp only at *
 obtain ⟨V, hV⟩ : ∃ V, vrF (decide (ixD p < 6)) F l = V := ⟨_, rfl⟩
 have hVn := fun hn => hV.symm.trans (@vrF_len (decide (ixD p < 6)) F l hn)
 have hVi := fun i hi hv => hV.symm.trans (@vrF_no (decide (ixD p < 6)) F l i hi hv)
 have hVy : decide (ixD p < 6) = true → l.length = F.length → (∀ i, i < F.length → vrAt F l i = true) → V = true := fun h1 h2 h3 => hV.symm.trans (by rw [h1]; exact vrF_yes h2 h3)
 have hV0 : decide (ixD p < 6) = false → V = false := fun h1 => hV.symm.trans (by rw [h1]; rfl)
 have hSb : (S == 0) = !(decide (ixD p < 6)) := by
  by_cases h : ixD p < 6
  ·rw [decide_eq_true h]
   rcases hS.1 h with rfl | rfl <;> rfl
  ·rw [decide_eq_false h, (hS.2 h).1]; rfl
 rw [hV]
 clear hV hS
 have HLv := Lib.hid hl
 clear hl
 obtain ⟨N, hN⟩ : ∃ N, F.length = N := ⟨_, rfl⟩
 obtain ⟨M, hM⟩ : ∃ M, l.length = M := ⟨_, rfl⟩
 have HNl := Lib.hid hN
 have HMl := Lib.hid hM
 rw [hN] at HD hF5 hVn hVi hVy
 rw [hM] at hlen hVn hVy ⊢
 generalize decide (ixD p < 6) = there at *
 have HV0 := Lib.hid hV0
 have HVn := Lib.hid hVn
 have HVi := Lib.hid hVi
 have HVy := Lib.hid hVy
 clear hN hM hV0 hVn hVi hVy
 go_enter Tryz.func32, Tryz.ntmps32
 go_wp2_with fail
 refine ((HD _).out).mono ?_
 rintro e w1 ⟨a, rfl, hn, h⟩
 obtain ⟨L1, e1⟩ : ∃ x, w.heap.size = x := ⟨_, rfl⟩
 obtain ⟨H1, f1⟩ : ∃ x, w1.heap.size = x := ⟨_, rfl⟩
 have qH1_L1 : L1 ≤ H1 := (by rw [← e1, ← f1]; exact h.size)
 have HL1 := Lib.hid (show Lg w w1 [] [(L1, H1, fun W => RsNew fdL 3 147 L1 H1 W a F)] from (Lg.first w).made e1 f1 h (by rw [← e1, ← f1]; exact hn.solid))
 clear h hn e1 f1
 rcases there with _ | _
 ·have hv := HV0.out rfl
  simp only [Bool.not_false] at hSb
  go_wp2_with (first
   | (refine wpList_alloc_h rfl 81 rfl (.agg #[.int .i64 0, .int .i64 0, .int .i64 0, .slice none 0 0]) (by kernel_rfl) #[.int .i64 0, .int .i64 0, .int .i64 0, .slice none 0 0] rfl ?_; intro w2 R2 e2 g2 b2; have qR2_H1 : H1 ≤ R2 := Nat.le_trans (HL1.out.hi (.head _)).2 (Nat.le_of_eq e2); have HL2 := Lib.hid (show Lg w w2 [(R2, #[.int .i64 0, .int .i64 0, .int .i64 0, .slice none 0 0], 81)] [(L1, H1, fun W => RsNew fdL 3 147 L1 H1 W a F)] from HL1.out.box e2 g2 b2); clear g2 b2 e2)
   | (refine wpList_put_at rfl 81 (.tmp 5) (.tmp 8) rfl rfl (R2) 0 rfl _ rfl #[.int .i64 P, .int .i64 S, .int .i64 R, .slice a N N] rfl 81 #[.int .i64 0, .int .i64 0, .int .i64 0, .slice none 0 0] #[.int .i64 P, .int .i64 S, .int .i64 R, .slice a N N] (HL2.out.get (.head _)) (by kernel_rfl) (by kernel_rfl) (by kernel_rfl) (by kernel_rfl) ?_; intro w3 g3 o3; have HL3 := Lib.hid (show Lg w w3 [(R2, #[.int .i64 P, .int .i64 S, .int .i64 R, .slice a N N], 81)] [(L1, H1, fun W => RsNew fdL 3 147 L1 H1 W a F)] from HL2.out.put 0 rfl g3 o3 (fun _ h => nomatch h) (List.forall_mem_cons.2 ⟨.inl qR2_H1, (fun _ h => nomatch h)⟩) rfl); clear g3 o3)
   | (refine wpList_load_one rfl 2 (.tmp 9) rfl (R2) 1 rfl 81 #[.int .i64 P, .int .i64 S, .int .i64 R, .slice a N N] (0, 0) (HL3.out.get (.head _)) (.int .i64 S) rfl _ Tryz.underlying2 rfl (by kernel_rfl) ?_))
  go_ret
  exact ⟨by first | rfl | (rw [hv]; rfl), HL3.out.below⟩
 simp only [Bool.not_true] at hSb
 by_cases hMN : M = N
 ·obtain rfl : N = M := hMN.symm
  have e1 : ((N : Int) != (N : Int)) = false := by simp
  go_wp2_with (first
   | (refine wpList_alloc_h rfl 81 rfl (.agg #[.int .i64 0, .int .i64 0, .int .i64 0, .slice none 0 0]) (by kernel_rfl) #[.int .i64 0, .int .i64 0, .int .i64 0, .slice none 0 0] rfl ?_; intro w2 R2 e2 g2 b2; have qR2_H1 : H1 ≤ R2 := Nat.le_trans (HL1.out.hi (.head _)).2 (Nat.le_of_eq e2); have HL2 := Lib.hid (show Lg w w2 [(R2, #[.int .i64 0, .int .i64 0, .int .i64 0, .slice none 0 0], 81)] [(L1, H1, fun W => RsNew fdL 3 147 L1 H1 W a F)] from HL1.out.box e2 g2 b2); clear g2 b2 e2)
   | (refine wpList_put_at rfl 81 (.tmp 5) (.tmp 8) rfl rfl (R2) 0 rfl _ rfl #[.int .i64 P, .int .i64 S, .int .i64 R, .slice a N N] rfl 81 #[.int .i64 0, .int .i64 0, .int .i64 0, .slice none 0 0] #[.int .i64 P, .int .i64 S, .int .i64 R, .slice a N N] (HL2.out.get (.head _)) (by kernel_rfl) (by kernel_rfl) (by kernel_rfl) (by kernel_rfl) ?_; intro w3 g3 o3; have HL3 := Lib.hid (show Lg w w3 [(R2, #[.int .i64 P, .int .i64 S, .int .i64 R, .slice a N N], 81)] [(L1, H1, fun W => RsNew fdL 3 147 L1 H1 W a F)] from HL2.out.put 0 rfl g3 o3 (fun _ h => nomatch h) (List.forall_mem_cons.2 ⟨.inl qR2_H1, (fun _ h => nomatch h)⟩) rfl); clear g3 o3)
   | (refine wpList_load_one rfl 2 (.tmp 9) rfl (R2) 1 rfl 81 #[.int .i64 P, .int .i64 S, .int .i64 R, .slice a N N] (0, 0) (HL3.out.get (.head _)) (.int .i64 S) rfl _ Tryz.underlying2 rfl (by kernel_rfl) ?_)
   | (refine wpList_load_one rfl 79 (.tmp 15) rfl (R2) 3 rfl 81 #[.int .i64 P, .int .i64 S, .int .i64 R, .slice a N N] (0, 0) (HL3.out.get (.head _)) (.slice a N N) rfl _ Tryz.underlying79 rfl (by kernel_rfl) ?_))
  have HFl := Lib.hid (HL3.out.at (.head _)).ins
  have HR5 := Lib.hid (HL3.out.get (.head _))
  have HBp := Lib.hid HL3.out.below
  have HLq := Lib.hid (HLv.out.kept HBp.out)
  clear HL1 HL2 HL3 HLv
  have HR50 := HR5
  clear HR5
  go_loopw [6] (fun i wr => ∃ k : Nat, i = .int .i64 (k : Int) ∧ k ≤ N ∧ (∀ i, i < k → vrAt F l i = true) ∧ Below w3.heap.size w3 wr) (fun i _ => N - (intOf i).toNat)
  case atStart => exact ⟨0, rfl, by omega, fun i hi => absurd hi (by omega), Below.refl _ _⟩
  case round =>
   obtain ⟨k, rfl, hk, hall, hb⟩ := hrel
   have HA := Lib.hid hall
   clear hall
   by_cases hkn : k < N
   ·have hi1 : (0 : Int) ≤ (k : Int) := by omega
    have hi2 : (k : Int) < (N : Int) := by omega
    have hkF : k < F.length := by have := HNl.out; omega
    have hkl : k < l.length := by have := HMl.out; omega
    obtain ⟨b, o, rfl, hlt, hc⟩ := HFl.out.at (by omega)
    obtain ⟨b2, o2, rfl, hlt2, hc2⟩ := HLq.out.at (by omega)
    have lv : b2 < wr.heap.size := Nat.lt_of_lt_of_le hlt2 hb.size
    have lf : b < wr.heap.size := Nat.lt_of_lt_of_le hlt hb.size
    have HR5 := Lib.hid ((hb.block _ (Array.getElem?_eq_some_iff.1 HR50.out).1).trans HR50.out)
    have HCf := Lib.hid (fun j v hv => (hb.cell (p := ⟨b, _, none⟩) hlt).trans (hc k _ (fdAt_some hkF) j v hv))
    have HCv := Lib.hid (fun j v hv => (hb.cell (p := ⟨b2, _, none⟩) hlt2).trans (hc2 k _ (vlAt_some hkl) j v hv))
    have HNx := Lib.hid (@vr_next F l k HA.out)
    have HNo := Lib.hid (HVi.out k hkn)
    have HVR := fun W => Lib.hid (specValueRight_any (fdAt F k).a (fdAt F k).w (fdAt F k).g (vlAt l k).k (vlAt l k).v W)
    unfold vrAt at HNx HNo
    clear hc hc2
    generalize fdAt F k = x at *
    generalize vlAt l k = y at *
    obtain ⟨fa, fw, fg⟩ := x
    obtain ⟨vk, vn⟩ := y
    unfold fdL at HCf
    unfold vlL at HCv
    unfold fdV vlV at HVR
    dsimp only at *
    generalize valB fa fw fg vk vn = Y at *
    go_wp2_with fail
    refine wp_region_quiet (C := fun W => Below wr.heap.size wr W) (by kernel_rfl) (by kernel_rfl) (Below.refl _ _).drew ?_
    dsimp only
    go_big_quiet_want; go_big_quiet_op; first | go_big_quiet_on | (refine ⟨_, fun _ _ => rfl, ?_⟩; go_big_quiet_on)
    go_big_quiet_want; refine ⟨.slice (some ⟨b, o, none⟩) N N, fun W hW => (quietLoadOne 79 (.tmp 26) rfl R2 3 rfl _ (rowCells HR5.out hW _ _ rfl) _ Tryz.underlying79 rfl), ?_⟩; simp only [Act.put, List.setIfInBounds_toArray, List.set_cons_zero, List.set_cons_succ]; go_big_quiet_on
    iterate 2 (go_big_quiet_want; go_big_quiet_op; first | go_big_quiet_on | (refine ⟨_, fun _ _ => rfl, ?_⟩; go_big_quiet_on))
    go_big_quiet_want; refine ⟨.agg #[.int .i64 fa, .int .i64 fw, .bool fg], fun W hW => (quietLoadCells 147 (.tmp 29) rfl b (o + k * 3) rfl [.int .i64 fa, .int .i64 fw, .bool fg] (grownCells lf HCf.out hW) _ Tryz.underlying147 rfl (by kernel_rfl)), ?_⟩; simp only [Act.put, List.setIfInBounds_toArray, List.set_cons_zero, List.set_cons_succ]; go_big_quiet_on
    iterate 3 (go_big_quiet_want; go_big_quiet_op; first | go_big_quiet_on | (refine ⟨_, fun _ _ => rfl, ?_⟩; go_big_quiet_on))
    go_big_quiet_want; refine ⟨.agg #[.int .i64 vk, .int .i64 vn], fun W hW => (quietLoadCells 99 (.tmp 33) rfl b2 (o2 + k * 2) rfl [.int .i64 vk, .int .i64 vn] (grownCells lv HCv.out hW) _ Tryz.underlying99 rfl (by kernel_rfl)), ?_⟩; simp only [Act.put, List.setIfInBounds_toArray, List.set_cons_zero, List.set_cons_succ]; go_big_quiet_on
    go_big_quiet_want; go_big_quiet_op; refine ⟨_, fun W hW => quietCall hW (HVR W).out, ?_⟩; go_big_quiet_on
    go_big_quiet_want; go_big_quiet_op; first | go_big_quiet_on | (refine ⟨_, fun _ _ => rfl, ?_⟩; go_big_quiet_on)
    refine wpQuiet_nil ?_
    intro X hX
    have hbX := hb.trans (hX.mono hb.size)
    rcases Y with _ | _
    ·have hv := HNo.out rfl
     go_wp2_with fail
     go_ret
     exact ⟨by first | rfl | (rw [hv]; rfl), HBp.out.trans (hbX.mono HBp.out.size)⟩
    ·have HN2 := Lib.hid (HNx.out rfl)
     go_wp2_with fail
     go_roundw
     case rel => exact ⟨k + 1, by go_num, by omega, HN2.out, hbX⟩
     case measure => simp [intOf]; omega
   ·have hv := HVy.out (by trivial) (by trivial) (fun i hi => HA.out i (by omega))
    go_wp2_with fail
    go_ret
    exact ⟨by first | rfl | (rw [hv]; rfl), HBp.out.trans (hb.mono HBp.out.size)⟩
 ·have hv := HVn.out hMN
  have e1 : ((M : Int) != (N : Int)) = true := by simp; omega
  go_wp2_with (first
   | (refine wpList_alloc_h rfl 81 rfl (.agg #[.int .i64 0, .int .i64 0, .int .i64 0, .slice none 0 0]) (by kernel_rfl) #[.int .i64 0, .int .i64 0, .int .i64 0, .slice none 0 0] rfl ?_; intro w2 R2 e2 g2 b2; have qR2_H1 : H1 ≤ R2 := Nat.le_trans (HL1.out.hi (.head _)).2 (Nat.le_of_eq e2); have HL2 := Lib.hid (show Lg w w2 [(R2, #[.int .i64 0, .int .i64 0, .int .i64 0, .slice none 0 0], 81)] [(L1, H1, fun W => RsNew fdL 3 147 L1 H1 W a F)] from HL1.out.box e2 g2 b2); clear g2 b2 e2)
   | (refine wpList_put_at rfl 81 (.tmp 5) (.tmp 8) rfl rfl (R2) 0 rfl _ rfl #[.int .i64 P, .int .i64 S, .int .i64 R, .slice a N N] rfl 81 #[.int .i64 0, .int .i64 0, .int .i64 0, .slice none 0 0] #[.int .i64 P, .int .i64 S, .int .i64 R, .slice a N N] (HL2.out.get (.head _)) (by kernel_rfl) (by kernel_rfl) (by kernel_rfl) (by kernel_rfl) ?_; intro w3 g3 o3; have HL3 := Lib.hid (show Lg w w3 [(R2, #[.int .i64 P, .int .i64 S, .int .i64 R, .slice a N N], 81)] [(L1, H1, fun W => RsNew fdL 3 147 L1 H1 W a F)] from HL2.out.put 0 rfl g3 o3 (fun _ h => nomatch h) (List.forall_mem_cons.2 ⟨.inl qR2_H1, (fun _ h => nomatch h)⟩) rfl); clear g3 o3)
   | (refine wpList_load_one rfl 2 (.tmp 9) rfl (R2) 1 rfl 81 #[.int .i64 P, .int .i64 S, .int .i64 R, .slice a N N] (0, 0) (HL3.out.get (.head _)) (.int .i64 S) rfl _ Tryz.underlying2 rfl (by kernel_rfl) ?_)
   | (refine wpList_load_one rfl 79 (.tmp 15) rfl (R2) 3 rfl 81 #[.int .i64 P, .int .i64 S, .int .i64 R, .slice a N N] (0, 0) (HL3.out.get (.head _)) (.slice a N N) rfl _ Tryz.underlying79 rfl (by kernel_rfl) ?_))
  go_ret
  exact ⟨by first | rfl | (rw [hv]; rfl), HL3.out.below⟩
end Go.Proofs.YtioldepgoodipaaGreat
namespace Go.Proofs.YtioldepgoodipaaGreat
open Go.RowKit
set_option linter.unusedVariables false

theorem Out.undrew {lo hi : Nat} {w w' : World} (h : Out lo hi w.drew w') : Out lo hi w w' := ⟨h.os, h.tape, h.output, h.size, h.block⟩
set_option maxRecDepth 100000 in
set_option maxHeartbeats 2000000 in
theorem mul18_any (w : World) :
  Calls Tryz.prog 168 #[.int .u64 1, .int .u64 8] w fun e w' => e = .returned (.tuple #[.int .u64 0, .int .u64 8]) ∧ w = w' := by
 go_enter Tryz.func168, Tryz.ntmps168
 go_wp2
 go_ret2
 exact ⟨rfl, rfl⟩
def Eight (v : Value) (n : Nat) (c : List Value) : Prop := c.length = 8 ∧ c.take n = List.replicate n v
theorem Eight.step {v : Value} {n : Nat} {c : List Value} (h : Eight v n c) (hn : n + n ≤ 8) : Eight v (n + n) (splice c n (List.replicate n v)) := by
 refine ⟨by rw [length_splice _ _ _ (by rw [List.length_replicate, h.1]; exact hn)]; exact h.1, ?_⟩
 unfold splice
 rw [h.2, ← List.append_assoc, List.take_append_of_le_length (by simp)]
 rw [List.replicate_append_replicate, List.take_of_length_le (by simp)]
theorem Eight.first {v : Value} {c : List Value} (h : c.length = 8) : Eight v 1 (splice c 0 [v]) :=
 ⟨by rw [length_splice _ _ _ (by rw [h]; show 0 + 1 ≤ 8; decide)]; exact h, rfl⟩
theorem Eight.all {v : Value} {c : List Value} (h : Eight v 8 c) : c = List.replicate 8 v := by
 have h2 := h.2
 rwa [List.take_of_length_le (by rw [h.1]; exact Nat.le_refl _)] at h2
theorem Eight.cells {v : Value} {n : Nat} {c : List Value} (h : Eight v n c) {w : World} {g : Nat} {t : TypeId} (hg : w.heap[g]? = some (.cells c.toArray t (0, 0))) :
  ∀ j u, (List.replicate n v)[j]? = some u → w.cell? ((⟨g, 0, none⟩ : Addr).add j) = some u := by
 intro j u hj
 have e : (⟨g, 0, none⟩ : Addr).add j = ⟨g, j, none⟩ := by unfold Addr.add; split <;> simp_all
 rw [e, cell_of_row w g j c.toArray t (0, 0) hg]
 rw [← h.2, List.getElem?_take] at hj
 split at hj
 ·simpa using hj
 ·cases hj
theorem own8 {w : World} {base : Nat} {e : TypeId} {g : Nat} {xs : List Value} (h : w.ownsRow base e 1 (.slice (some ⟨g, 0, none⟩) 8 8) 8 xs) : ∃ c : List Value, w.heap[g]? = some (.cells c.toArray e (0, 0)) ∧ c.length = 8 := by
 rcases h.2 with ⟨h', _⟩ | ⟨g', cap', cur, h', _, hg, _, _, hc, _⟩
 ·simp at h'
 ·simp only [Value.slice.injEq, Option.some.injEq, Addr.mk.injEq, and_true, true_and] at h'
  obtain ⟨rfl, rfl⟩ := h'
  exact ⟨cur.toList, hg, by simpa using hc⟩
theorem one_cells {w : World} {b : Nat} {v : Value} (h : w.cell? ⟨b, 0, none⟩ = some v) : ∀ j u, [v][j]? = some u → w.cell? ((⟨b, 0, none⟩ : Addr).add j) = some u := by
 intro j u hj
 rcases j with _ | j
 ·simp at hj
  subst hj
  exact h
 ·simp at hj
theorem Repeat.info8 : (Tryz.prog.info? 5).map (fun i => (i.zero, i.size, i.bytes)) = some (some (.int .u8 0), 1, 1) := by kernel_rfl
theorem Repeat.one8 : (Tryz.prog.info? 5).map (·.size) = some 1 := by kernel_rfl
set_option maxRecDepth 100000 in
set_option maxHeartbeats 4000000 in
theorem repeat8_any (b : Nat) (w : World) (x : Int) (h : w.cell? ⟨b, 0, none⟩ = some (.int .u8 x)) (hlt : b < w.heap.size) :
  Calls Tryz.prog 105 #[.slice (some ⟨b, 0, none⟩) 1 1, .int .i64 8] w fun e w' => ∃ G, e = .returned (.slice (some ⟨G, 0, none⟩) 8 8) ∧ w.heap.size ≤ G ∧ w'.heap[G]? = some (.cells (List.replicate 8 (Value.int .u8 x)).toArray 5 (0, 0)) ∧ Below w.heap.size w w' := by
 obtain ⟨i0, hi, hz0, hz1, hz2⟩ := info_parts Repeat.info8
 have HC := Lib.hid h
 clear h
 go_enter Tryz.func105, Tryz.ntmps105
 go_wp2_with fail
 refine (mul18_any _).mono ?_
 rintro e w' ⟨rfl, rfl⟩
 go_wp2_with (first
  | (at_make; refine wpList_make_full _ rfl (.tmp 29) (.tmp 29) 153 rfl w.heap.size 5 i0 (.int .u8 0) 1 Tryz.underlying153 hi hz0 hz1 .i64 .i64 8 8 8 (by rfl) (by rfl) (by omega) (by omega) (by rw [hz2]; omega) (by unfold maxLen; omega) (Nat.le_refl _) ?_; intro w1 hown hgrow; obtain ⟨cur, hcg, hcl⟩ := own8 hown; have HG1 := Lib.hid hcg; have HL := Lib.hid hcl; have HB := Lib.hid ((Below.refl w.heap.size w).grown hgrow (Nat.le_refl _) (fun _ h => by cases h)); have HC1 := Lib.hid ((HB.out.cell (p := ⟨b, 0, none⟩) hlt).trans HC.out); clear hown hgrow hcg hcl)
  | (refine wpList_copy_h rfl (.tmp 31) (.tmp 32) 153 153 rfl 5 Tryz.underlying153 Repeat.one8 (some ⟨w.heap.size, 0, none⟩) (some ⟨b, 0, none⟩) 8 8 1 1 rfl rfl w.heap.size 0 cur 5 HG1.out [.int .u8 x] rfl (fun _ => ⟨rfl, ⟨b, 0, none⟩, rfl, one_cells HC1.out⟩) (by rw [HL.out]; show 0 + 1 ≤ 8; decide) (by simp [Value.oneCell']) ?_; intro w2 hg ho; have HG2 := Lib.hid hg; have HO2 := Lib.hid ho; have HE2 := Lib.hid (Eight.first (v := .int .u8 x) HL.out); clear hg ho))
 refine wp_loop_rounds 4 ?_
 rw [rounds_succ]
 go_wp2_with fail
 go_region_law (refine step_copy_h rfl (.tmp 41) (.tmp 44) 153 153 rfl 5 Tryz.underlying153 Repeat.one8 (some ⟨w.heap.size, 1, none⟩) (some ⟨w.heap.size, 0, none⟩) 7 7 1 8 (by simp [Act.eval, Act.put]) (by simp [Act.eval, Act.put]) w.heap.size 1 _ 5 HG2.out (List.replicate 1 (Value.int .u8 x)) rfl (fun _ => ⟨rfl, ⟨w.heap.size, 0, none⟩, rfl, HE2.out.cells HG2.out⟩) (by rw [HE2.out.1, List.length_replicate]; decide) (by simp [Value.oneCell']) ?_; intro w3 hg ho; have HG3 := Lib.hid hg; have HO3 := Lib.hid ho; have HE3 := Lib.hid (HE2.out.step (by decide)); clear hg ho)
 go_wp2_with fail
 rw [rounds_succ]
 go_wp2_with fail
 go_region_law (refine step_copy_h rfl (.tmp 41) (.tmp 44) 153 153 rfl 5 Tryz.underlying153 Repeat.one8 (some ⟨w.heap.size, 2, none⟩) (some ⟨w.heap.size, 0, none⟩) 6 6 2 8 (by simp [Act.eval, Act.put]) (by simp [Act.eval, Act.put]) w.heap.size 2 _ 5 HG3.out (List.replicate 2 (Value.int .u8 x)) rfl (fun _ => ⟨rfl, ⟨w.heap.size, 0, none⟩, rfl, HE3.out.cells HG3.out⟩) (by rw [HE3.out.1, List.length_replicate]; decide) (by simp [Value.oneCell']) ?_; intro w4 hg ho; have HG4 := Lib.hid hg; have HO4 := Lib.hid ho; have HE4 := Lib.hid (HE3.out.step (by decide)); clear hg ho)
 go_wp2_with fail
 rw [rounds_succ]
 go_wp2_with fail
 go_region_law (refine step_copy_h rfl (.tmp 41) (.tmp 44) 153 153 rfl 5 Tryz.underlying153 Repeat.one8 (some ⟨w.heap.size, 4, none⟩) (some ⟨w.heap.size, 0, none⟩) 4 4 4 8 (by simp [Act.eval, Act.put]) (by simp [Act.eval, Act.put]) w.heap.size 4 _ 5 HG4.out (List.replicate 4 (Value.int .u8 x)) rfl (fun _ => ⟨rfl, ⟨w.heap.size, 0, none⟩, rfl, HE4.out.cells HG4.out⟩) (by rw [HE4.out.1, List.length_replicate]; decide) (by simp [Value.oneCell']) ?_; intro w5 hg ho; have HG5 := Lib.hid hg; have HO5 := Lib.hid ho; have HE5 := Lib.hid (HE4.out.step (by decide)); clear hg ho)
 go_wp2_with fail
 rw [rounds_succ]
 go_wp2_with fail
 go_ret
 refine ⟨_, rfl, Nat.le_refl _, ?_, ?_⟩
 ·have h := HG5.out
  rwa [HE5.out.all] at h
 ·have h1 : w.heap.size < w1.heap.size := (Array.getElem?_eq_some_iff.1 HG1.out).1
  exact ((((HO2.out.trans HO3.out.undrew).trans HO4.out.undrew).trans HO5.out.undrew).below HB.out (Nat.le_refl _) (Nat.le_of_lt h1))
end Go.Proofs.YtioldepgoodipaaGreat
namespace Go.Proofs.YtioldepgoodipaaGreat
open Go.RowKit
set_option linter.unusedVariables false

def fill8 (l : List UInt8) : List UInt8 := (l ++ List.replicate 8 255).take 8
theorem fill8_length (l : List UInt8) : (fill8 l).length = 8 := by simp [fill8]
theorem fill8_take (H S : List UInt8) (n : Nat) (h : 8 ≤ H.length + n) : fill8 (H ++ S.take n) = fill8 (H ++ S) := by
 unfold fill8
 rcases Nat.lt_or_ge S.length n with hn | hn
 ·rw [List.take_of_length_le (Nat.le_of_lt hn)]
 ·rw [List.take_append_of_le_length (l₁ := H ++ S.take n) (by rw [List.length_append, List.length_take]; omega), List.take_append_of_le_length (l₁ := H ++ S) (by rw [List.length_append]; omega), List.take_append (l₁ := H) (l₂ := S.take n), List.take_append (l₁ := H) (l₂ := S), List.take_take, Nat.min_eq_left (by omega)]
theorem two_splices {α : Type} (v : α) (H S : List α) (h : H.length ≤ 8) : splice (splice (List.replicate 8 v) 0 H) H.length (S.take (Nat.min S.length (8 - H.length))) = (H ++ S ++ List.replicate 8 v).take 8 := by
 have e1 : splice (List.replicate 8 v) 0 H = H ++ List.replicate (8 - H.length) v := by
  unfold splice
  rw [List.take_zero, List.nil_append, Nat.zero_add, List.drop_replicate]
 have e2 : S.take (Nat.min S.length (8 - H.length)) = S.take (8 - H.length) := by
  rcases Nat.le_total S.length (8 - H.length) with q | q
  ·rw [show Nat.min S.length (8 - H.length) = S.length from Nat.min_eq_left q, List.take_of_length_le (Nat.le_refl _), List.take_of_length_le q]
  ·rw [show Nat.min S.length (8 - H.length) = 8 - H.length from Nat.min_eq_right q]
 rw [e1, e2]
 unfold splice
 rw [List.take_append_of_le_length (Nat.le_refl _), List.take_of_length_le (Nat.le_refl _), List.drop_append, List.append_assoc, List.take_append, List.take_of_length_le h]
 congr 1
 rw [List.take_append, List.drop_of_length_le (by omega), List.nil_append]
 congr 1
 rw [List.length_take, List.drop_replicate, List.take_replicate]
 congr 1
 omega
section
variable {P : Program} {w : World} {ops : Array Oper} {rest : List Oper} {o : Oper} {a : Act} {Q : Exit → Act → World → Prop}
theorem run_copy_string_min (w : World) (dT sT ty elem : TypeId) (b o dLen dCap : Nat) (t : ByteArray) (cs : List Value) (hcs : (bcells t.data.toList).take (Nat.min t.size dLen) = cs)
  (hu : P.underlying dT = some (.slice elem)) (hz : (P.info? elem).map (·.size) = some 1)
  (hc : ∀ j, j < cs.length → (w.cell? ⟨b, o + j, none⟩).isSome = true) (hf : ∀ j, j < cs.length → w.frozen? ⟨b, o + j, none⟩ = false) :
  (Builtin.copy_ #[dT, sT] ty #[.slice (some ⟨b, o, none⟩) dLen dCap, .string t]).run P w = .ok (goInt (Nat.min t.size dLen)) (w.setCells b o cs) := by
 have hst := run_storeCells_cells (P := P) b o cs 0 w (by simpa using hc) (by simpa using hf) (by
  intro v hv
  rw [← hcs] at hv
  exact bcells_one _ v (List.mem_of_mem_take hv))
 simp only [Nat.add_zero] at hst
 cases hq : P.info? elem with
 | none => simp [hq] at hz
 | some i =>
  have hs : i.size = 1 := by simpa [hq] using hz
  unfold bcells at hcs
  simp [Builtin.copy_, run_underlying hu, Builtin.lenOf, Builtin.firstCells, sizeOf, typeInfo, hq]
  rw [hcs, hst]
  rfl
theorem setAll_splice (cur : List Value) (off : Nat) (cs : List Value) (h : off + cs.length ≤ cur.length) : setAll cur.toArray off cs = (splice cur off cs).toArray := by
 apply Array.ext'
 apply List.ext_getElem?
 intro j
 rw [Array.getElem?_toList]
 show _ = (splice cur off cs)[j]?
 unfold splice
 rcases Nat.lt_or_ge j off with h1 | h1
 ·rw [setAll_off _ _ _ _ (.inl h1), List.getElem?_append_left (by rw [List.length_take]; omega), List.getElem?_take, if_pos h1]
  simp
 ·rw [List.getElem?_append_right (by rw [List.length_take]; omega), List.length_take, Nat.min_eq_left (by omega)]
  rcases Nat.lt_or_ge (j - off) cs.length with h2 | h2
  ·rw [List.getElem?_append_left h2]
   have := setAll_at cs cur.toArray off (j - off) cs[j - off] (by simpa using h) (List.getElem?_eq_getElem h2)
   rw [show off + (j - off) = j by omega] at this
   rw [this, List.getElem?_eq_getElem h2]
  ·rw [setAll_off _ _ _ _ (.inr (by omega)), List.getElem?_append_right h2, List.getElem?_drop]
   rw [show off + cs.length + (j - off - cs.length) = j by omega]
   simp
theorem wpList_copy_str_h (hgd : o.guard = none) (d x : Operand) (dT sT : TypeId) (ho : o.op = .call { callee := .builtin .copy, args := #[d, x], argTypes := #[dT, sT] }) (elem : TypeId) (hu : P.underlying dT = some (.slice elem)) (hsz : (P.info? elem).map (·.size) = some 1)
  (s : ByteArray) (hx : a.eval x = .string s) (g off dLen dCap : Nat) (hd : a.eval d = .slice (some ⟨g, off, none⟩) dLen dCap) (cs : List Value) (hcs : (bcells s.data.toList).take (Nat.min s.size dLen) = cs)
  (cur : List Value) (t : TypeId) (hg : w.heap[g]? = some (.cells cur.toArray t (0, 0))) (hfit : off + cs.length ≤ cur.length)
  (h : ∀ w', w'.heap[g]? = some (.cells (splice cur off cs).toArray t (0, 0)) → Out g (g + 1) w w' → wpList P ops Q rest (a.put o.dst (goInt (Nat.min s.size dLen))) w') : wpList P ops Q (o :: rest) a w := by
 refine wpList_plain hgd fun K hK => ?_
 have hrun := run_copy_string_min (P := P) w dT sT o.type elem g off dLen dCap s cs hcs hu hsz (fun j hj => by
  rw [cell_of_row w g _ _ _ _ hg, Array.getElem?_eq_getElem (by simp; omega)]
  rfl) (fun j _ => frozen_of_row w g _ _ t hg)
 unfold Oper.wp
 simp [execOp, ho, resolve, invoke, builtin, hd, hx, hrun, Result.andThen]
 have hh := heap_setCells g t cs w off _ hg
 rw [setAll_splice cur off cs hfit] at hh
 exact hK _ _ (h _ hh (out_setCells g cs w off))
def BufB (w : World) (lo : Nat) (v : Value) (l : List UInt8) : Prop :=
 ∃ g cap, v = .slice (some ⟨g, 0, none⟩) l.length cap ∧ lo ≤ g ∧ g < w.heap.size ∧ l.length ≤ cap ∧ (∀ j, j < cap → (w.cell? ⟨g, j, none⟩).isSome = true ∧ w.frozen? ⟨g, j, none⟩ = false) ∧ ∀ (j : Nat) u, (bcells l)[j]? = some u → w.cell? ⟨g, j, none⟩ = some u
theorem BufB.kept {lo : Nat} {v : Value} {l : List UInt8} {w' : World} (h : BufB w lo v l) (hb : Below w.heap.size w w') : BufB w' lo v l := by
 obtain ⟨g, cap, h0, h1, h2, h3, h4, h5⟩ := h
 exact ⟨g, cap, h0, h1, Nat.lt_of_lt_of_le h2 hb.size, h3, fun j hj => ⟨by rw [hb.cell (p := ⟨g, j, none⟩) h2]; exact (h4 j hj).1, (hb.frozen (p := ⟨g, j, none⟩) h2).trans (h4 j hj).2⟩, fun j u hu => (hb.cell (p := ⟨g, j, none⟩) h2).trans (h5 j u hu)⟩
theorem BufB.conv {lo : Nat} {v : Value} {l : List UInt8} (h : BufB w lo v l) (src dst T : TypeId) (hs : P.underlying src = some (.slice T)) (he : P.underlying T = some (.int .u8)) (hd : P.underlying dst = some .string) :
  (convert src dst v).run P w = .ok (.string ⟨l.toArray⟩) w := by
 obtain ⟨g, cap, rfl, h1, h2, h3, h4, h5⟩ := h
 refine run_convert_bytes_back w src dst T _ cap l hs he hd fun j hj => ?_
 have e : (⟨g, 0, none⟩ : Addr).add j = ⟨g, j, none⟩ := by unfold Addr.add; split <;> simp_all
 rw [e]
 exact h5 j _ (by simp [bcells, List.getElem?_map, List.getElem?_eq_getElem hj])
theorem wpList_bytes_buf (hgd : o.guard = none) (x : Operand) (src dst T : TypeId) (ho : o.op = .convert src dst x)
  (hs : P.underlying src = some .string) (hd : P.underlying dst = some (.slice T)) (he : P.underlying T = some (.int .u8)) (s : ByteArray) (hx : a.eval x = .string s)
  (h : ∀ v w', BufB w' w.heap.size v s.data.toList → Below w.heap.size w w' → wpList P ops Q rest (a.put o.dst v) w') : wpList P ops Q (o :: rest) a w := by
 refine wpList_plain hgd fun K hK => ?_
 have hrun := run_bytes_of_string (P := P) w src dst T s hs hd he
 have hl : s.data.toList.length = s.size := by simp
 have hge := grownCap_ge w s.size 0 T
 have hsz : (bytesRow s (grownCap w s.size 0 T)).size = grownCap w s.size 0 T := by
  unfold bytesRow
  simp
  omega
 unfold Oper.wp
 simp [execOp, ho, hx, hrun, Result.andThen]
 refine hK _ _ (h _ _ ⟨w.heap.size, grownCap w s.size 0 T, by simp, Nat.le_refl _, by simp, by simpa using hge, fun j hj => ?_, fun j u hu => ?_⟩ ((Below.refl _ _).drew.alloc (Nat.le_refl _) _))
 ·rw [show w.heap.size = w.drew.heap.size from rfl, World.cell?_alloc_mark, World.frozen?_alloc_mark, hsz]
  refine ⟨by rw [Array.getElem?_eq_getElem (by omega)]; rfl, by simp; omega⟩
 ·have hj : j < s.data.size := by
   have := (List.getElem?_eq_some_iff.1 hu).1
   simpa [bcells] using this
  rw [show w.heap.size = w.drew.heap.size from rfl, World.cell?_alloc_mark, bytesRow_at _ _ _ hj]
  rw [← hu]
  simp [bcells, List.getElem?_map, Array.getElem?_toList, Array.getElem?_eq_getElem hj]
theorem wpList_append_buf (hgd : o.guard = none) (s x : Operand) (t : TypeId) (ho : o.op = .call { callee := .builtin .append, args := #[s, x], argTypes := #[t, t] })
  (e : TypeId) (i : TypeInfo) (ht : P.underlying t = some (.slice e)) (hi : P.info? e = some i) (hz : i.zero = some (.int .u8 0)) (hsize : i.size = 1) (hby : i.bytes = 1)
  (lo : Nat) (v : Value) (l : List UInt8) (hs : a.eval s = v) (hown : BufB w lo v l) (c : UInt8)
  (ad : Addr) (cp : Nat) (hx : a.eval x = .slice (some ad) 1 cp) (hc : w.cell? ad = some (.int .u8 (c.toNat : Int))) (hl : l.length + 1 ≤ 1000000) (hlo : lo ≤ w.heap.size)
  (h : ∀ v' w', BufB w' lo v' (l ++ [c]) → Out lo w.heap.size w w' → wpList P ops Q rest (a.put o.dst v') w') : wpList P ops Q (o :: rest) a w := by
 obtain ⟨g, cap, rfl, h1, h2, h3, h4, h5⟩ := hown
 have hadd : ad.add 0 = ad := by unfold Addr.add; split <;> first | rfl | (exfalso; simp_all)
 refine wpList_append_arg w hgd s x t ho e i (.int .u8 0) 1 1 ht hi hz hsize hby rfl (by decide) g 0 l.length cap (bcells l) hs (by simp [bcells]) (fun j u hu => by rw [Nat.zero_add]; exact h5 j u hu) ad 1 cp [.int .u8 (c.toNat : Int)] hx rfl (fun j u hu => ?_) (by simp [Value.oneCell']) (fun hr j hj => ?_) (by unfold maxLen; omega) (by omega) (fun hr => ?_) (fun hg v' w' ho' hgr => ?_)
 ·rcases j with _ | j
  ·simp at hu
   subst hu
   rw [hadd]
   exact hc
  ·simp at hu
 ·have hj' : j = 0 := by simp at hj; omega
  subst hj'
  rw [Nat.zero_add, Nat.mul_one, Nat.add_zero]
  exact h4 _ (by omega)
 ·have hset : w.setCells g (0 + l.length * 1) [.int .u8 (c.toNat : Int)] = w.setCell ⟨g, l.length, none⟩ (.int .u8 (c.toNat : Int)) := by
   show w.setCell ⟨g, 0 + l.length * 1, none⟩ _ = _
   rw [Nat.zero_add, Nat.mul_one]
  rw [hset]
  obtain ⟨u0, hu0⟩ := Option.isSome_iff_exists.1 (h4 l.length (by omega)).1
  refine h _ _ ⟨g, cap, by simp, h1, by simpa using h2, by simp; omega, fun j hj => ⟨?_, ?_⟩, fun j u hu => ?_⟩ ((Out.refl lo w.heap.size w).setCell h1 h2 _)
  ·by_cases hj' : l.length = j
   ·subst hj'
    rw [World.cell?_setCell_same _ _ _ hu0]
    rfl
   ·rw [World.cell?_setCell_other _ _ _ _ (by simp <;> omega)]
    exact (h4 j hj).1
  ·rw [World.frozen?_setCell]
   exact (h4 j hj).2
  ·rw [bcells_append] at hu
   rcases Nat.lt_or_ge j l.length with hj | hj
   ·rw [List.getElem?_append_left (by simpa [bcells] using hj)] at hu
    rw [World.cell?_setCell_other _ _ _ _ (by simp <;> omega)]
    exact h5 j u hu
   ·rw [List.getElem?_append_right (by simpa [bcells] using hj)] at hu
    have hj0 : j = l.length := by
     have := (List.getElem?_eq_some_iff.1 hu).1
     simp [bcells] at this
     omega
    subst hj0
    simp [bcells] at hu
    subst hu
    exact World.cell?_setCell_same _ _ _ hu0
 ·have hlt := World.ownsRow.lt ho'
  have ho2 := ho'
  rcases ho'.2 with ⟨_, h0⟩ | ⟨g', cap', cur, rfl, hb, hh, hcap, hm, hsz, htk⟩
  ·omega
  ·refine h _ _ ⟨g', cap', by simp, Nat.le_trans hlo hb, (hlt g' rfl).2, by simpa using hcap, fun j hj => ⟨?_, frozen_of_row _ _ _ _ _ hh⟩, fun j u hu => ?_⟩ (Out.of_grown hgr fun k hk => by cases hk)
   ·rw [cell_of_row _ _ _ _ _ (0, 0) hh, Array.getElem?_eq_getElem (by omega)]
    rfl
   ·have hj : j < l.length + 1 := by
     have := (List.getElem?_eq_some_iff.1 hu).1
     simpa [bcells] using this
    rw [cell_of_row _ _ _ _ _ (0, 0) hh]
    have h6 : (cur.toList.take ((l.length + 1) * 1))[j]? = some u := by
     rw [htk, ← hu, bcells_append]
     rfl
    rw [List.getElem?_take] at h6
    split at h6
    ·simpa using h6
    ·cases h6
end
theorem filled_cells (H : List UInt8) (s : ByteArray) (h : H.length ≤ 8) :
  splice (splice (List.replicate 8 (Value.int .u8 255)) 0 (bcells H)) H.length ((bcells s.data.toList).take (Nat.min s.size (8 - H.length))) = bcells (fill8 (H ++ s.data.toList)) := by
 have h0 := two_splices (Value.int .u8 255) (bcells H) (bcells s.data.toList) (by simpa [bcells] using h)
 have e1 : (bcells H).length = H.length := by simp [bcells]
 have e2 : (bcells s.data.toList).length = s.size := by simp [bcells]
 rw [e1, e2] at h0
 rw [h0]
 unfold fill8 bcells
 rw [← List.map_append, List.map_take, List.map_append, List.map_append, List.map_append, List.map_replicate]
 rfl
set_option maxRecDepth 100000 in
set_option maxHeartbeats 4000000 in
theorem filled_any (b : Nat) (H : List UInt8) (s : ByteArray) (w : World) (h1 : 1 ≤ H.length) (h2 : H.length ≤ 2) (hc : ∀ j u, (bcells H)[j]? = some u → w.cell? ((⟨b, 0, none⟩ : Addr).add j) = some u) (hlt : b < w.heap.size) :
  Calls Tryz.prog 209 #[.slice (some ⟨b, 0, none⟩) H.length H.length, .string s] w fun e w' => e = .returned (.string ⟨(fill8 (H ++ s.data.toList)).toArray⟩) ∧ Below w.heap.size w w' := by
 have HC := Lib.hid hc
 have HF := Lib.hid (filled_cells H s (by omega))
 obtain ⟨n, hn⟩ : ∃ n, H.length = n := ⟨_, rfl⟩
 have HN := Lib.hid hn
 rw [hn] at h1 h2 HF ⊢
 clear hc hn
 have HE : Hid ((bcells H).length = n) := Lib.hid (by rw [← HN.out]; simp [bcells])
 obtain ⟨cs, hcs⟩ : ∃ cs, (bcells s.data.toList).take (Nat.min s.size (8 - n)) = cs := ⟨_, rfl⟩
 have HCS := Lib.hid hcs
 have HL : Hid (cs.length ≤ 8 - n) := Lib.hid (by rw [← hcs, List.length_take]; exact Nat.le_trans (Nat.min_le_left _ _) (Nat.min_le_right _ _))
 rw [hcs] at HF
 clear hcs
 go_enter Tryz.func209, Tryz.ntmps209
 go_wp2_with fail
 refine (repeat8_any _ _ 255 (cell_new1 _ _ _) (by simp)).mono ?_
 rintro e w2 ⟨G, rfl, hG, hg, hb⟩
 have HG := Lib.hid hg
 have HB := Lib.hid (((Below.refl w.heap.size w).alloc (Nat.le_refl _) (.cells #[.int .u8 255] 5)).trans (hb.mono (by simp)))
 have hGw : w.heap.size < G := by simp at hG; omega
 have HC2 := Lib.hid (fun j u hu => (HB.out.cell (p := (⟨b, 0, none⟩ : Addr).add j) (by unfold Addr.add; split <;> simpa using hlt)).trans (HC.out j u hu))
 clear hg hb hG HC
 go_wp2_with (first
  | (refine wpList_copy_h rfl (.tmp 9) (.tmp 10) 153 153 rfl 5 Tryz.underlying153 Repeat.one8 (some ⟨G, 0, none⟩) (some ⟨b, 0, none⟩) 8 8 n n rfl rfl G 0 _ 5 HG.out (bcells H) (by rw [HE.out]; exact (Nat.min_eq_left (by omega)).symm) (fun _ => ⟨rfl, ⟨b, 0, none⟩, rfl, HC2.out⟩) (by rw [HE.out, List.length_replicate]; omega) (bcells_one _) ?_; rw [HE.out]; intro w3 hg3 ho3; have HG3 := Lib.hid hg3; have HO3 := Lib.hid ho3; clear hg3 ho3)
  | (refine wpList_copy_str_h rfl (.tmp 14) (.tmp 15) 153 9 rfl 5 Tryz.underlying153 Repeat.one8 s rfl G n (8 - n) (8 - n) rfl cs HCS.out _ 5 HG3.out (by have := HL.out; rw [length_splice _ _ _ (by rw [HE.out, List.length_replicate]; omega), List.length_replicate]; omega) ?_; intro w4 hg4 ho4; rw [HF.out] at hg4; have HG4 := Lib.hid hg4; have HO4 := Lib.hid ho4; have hcv := conv_row (P := Tryz.prog) hg4 8 (fill8_length _).symm (by rw [List.take_of_length_le (by simp [bcells, fill8_length])]) 153 9 Tryz.underlying153 Tryz.underlying5 Tryz.underlying9; clear hg4 ho4))
 go_ret
 exact ⟨rfl, (HO3.out.trans HO4.out).below HB.out (Nat.le_of_lt hGw) HB.out.size⟩
set_option maxRecDepth 100000 in
set_option maxHeartbeats 4000000 in
theorem l06Fill_any (s : ByteArray) (w : World) (hs : s.size ≤ 8) :
  Calls Tryz.prog 87 #[.string s, .int .i64 8] w fun e w' => e = .returned (.string ⟨(fill8 s.data.toList).toArray⟩) ∧ Below w.heap.size w w' := by
 obtain ⟨i0, hi, hz0, hz1, hz2⟩ := info_parts Repeat.info8
 have HI := Lib.hid hi
 obtain ⟨S, hS⟩ : ∃ S, s.data.toList = S := ⟨_, rfl⟩
 have HS := Lib.hid hS
 have hSl : S.length = s.size := by rw [← hS]; simp
 rw [hS]
 clear hi hS
 go_enter Tryz.func87, Tryz.ntmps87
 go_wp2_with (refine wpList_bytes_buf rfl (.tmp 6) 9 153 5 rfl Tryz.underlying9 Tryz.underlying153 Tryz.underlying5 s rfl ?_; intro v w1 hv hb; have HV := Lib.hid hv; have HB := Lib.hid hb; clear hv hb)
 go_loopw [5] (fun v wr => ∃ (k : Nat) (V : Value), V = v ∧ S.length + k ≤ 8 ∧ BufB wr w.heap.size V (S ++ List.replicate k 255) ∧ Below w.heap.size w wr) (fun v _ => match v with | .slice _ n _ => 8 - n | _ => 0)
 case atStart => exact ⟨0, _, rfl, by omega, by rw [List.replicate_zero, List.append_nil, ← HS.out]; exact HV.out, HB.out⟩
 case round =>
  obtain ⟨k, V, rfl, hk, hv, hb⟩ := hrel
  have HVk := Lib.hid hv
  obtain ⟨g, cap, rfl, hg⟩ : ∃ g cap, V = .slice (some ⟨g, 0, none⟩) (S.length + k) cap ∧ True := by
   obtain ⟨g, cap, h0, _⟩ := hv
   exact ⟨g, cap, by rw [h0]; simp, trivial⟩
  clear hv hg
  obtain ⟨N, hN⟩ : ∃ N, S.length + k = N := ⟨_, rfl⟩
  have HN := Lib.hid hN
  rw [hN] at hk HVk ⊢
  clear hN
  by_cases hlt : N < 8
  ·have hd : decide ((N : Int) < 8) = true := decide_eq_true (by omega)
   go_wp2_with (at_builtin; refine wpList_append_buf rfl (.tmp 12) (.tmp 13) 153 rfl 5 i0 Tryz.underlying153 HI.out hz0 hz1 hz2 w.heap.size _ _ rfl (HVk.out.kept ((Below.refl _ _).alloc (Nat.le_refl _) _)) 255 ⟨wr.heap.size, 0, none⟩ 1 rfl (cell_new1 _ _ _) (by have := HN.out; simp; omega) (by have := hb.size; simp; omega) ?_; intro v' w2 hv2 ho2; have HV2 := Lib.hid hv2; have HO2 := Lib.hid ho2; clear hv2 ho2)
   go_roundw
   case rel => exact ⟨k + 1, _, rfl, by have := HN.out; omega, by have h := HV2.out; rw [List.append_assoc] at h; rw [List.replicate_succ']; exact h, HO2.out.below ((hb.alloc hb.size _)) (Nat.le_refl _) (by have := hb.size; simp; omega)⟩
   case measure =>
    obtain ⟨g', cap', h0, _⟩ := HV2.out
    subst h0
    have := HN.out
    simp
    omega
  ·have hd : decide ((N : Int) < 8) = false := decide_eq_false (by omega)
   have hcv := HVk.out.conv (P := Tryz.prog) 153 9 5 Tryz.underlying153 Tryz.underlying5 Tryz.underlying9
   have HX := Lib.hid (show S ++ List.replicate k 255 = fill8 S by
    have := HN.out
    unfold fill8
    rw [List.take_append, List.take_of_length_le (by omega), List.take_replicate]
    congr 2
    omega)
   go_wp2_with fail
   go_ret
   exact ⟨by rw [HX.out]; rfl, hb⟩
theorem l01Min_any (a b : Int) (w : World) :
  Calls Tryz.prog 89 #[.int .i64 a, .int .i64 b] w fun e w' => e = .returned (.int .i64 (if a < b then a else b)) ∧ w = w' := by
 by_cases h : a < b
 ·have hd : decide (a < b) = true := decide_eq_true h
  rw [if_pos h]
  go_enter Tryz.func89, Tryz.ntmps89
  go_wp2
  go_ret
  exact ⟨rfl, rfl⟩
 ·have hd : decide (a < b) = false := decide_eq_false h
  rw [if_neg h]
  go_enter Tryz.func89, Tryz.ntmps89
  go_wp2
  go_ret
  exact ⟨rfl, rfl⟩
end Go.Proofs.YtioldepgoodipaaGreat
namespace Go.Proofs.YtioldepgoodipaaGreat
open Go.RowKit
set_option linter.unusedVariables false

def FillN (N : Nat) (v : Value) (m : Nat) (c : List Value) : Prop := c.length = N ∧ c.take m = List.replicate m v
theorem FillN.step {N : Nat} {v : Value} {m j : Nat} {c : List Value} (h : FillN N v m c) (hn : m + j ≤ N) : FillN N v (m + j) (splice c m (List.replicate j v)) := by
 refine ⟨by rw [length_splice _ _ _ (by rw [List.length_replicate, h.1]; exact hn)]; exact h.1, ?_⟩
 unfold splice
 rw [h.2, ← List.append_assoc, List.take_append_of_le_length (by simp)]
 rw [List.replicate_append_replicate, List.take_of_length_le (by simp)]
theorem FillN.first {N : Nat} {v : Value} {c : List Value} (hN : 1 ≤ N) (h : c.length = N) : FillN N v 1 (splice c 0 [v]) :=
 ⟨by rw [length_splice _ _ _ (by rw [h]; show 0 + 1 ≤ N; omega)]; exact h, rfl⟩
theorem FillN.all {N : Nat} {v : Value} {c : List Value} (h : FillN N v N c) : c = List.replicate N v := by
 have h2 := h.2
 rwa [List.take_of_length_le (by rw [h.1]; exact Nat.le_refl _)] at h2
theorem FillN.cells {N : Nat} {v : Value} {m : Nat} {c : List Value} (h : FillN N v m c) {w : World} {g : Nat} {t : TypeId} (hg : w.heap[g]? = some (.cells c.toArray t (0, 0))) {j : Nat} (hj : j ≤ m) :
  ∀ i u, (List.replicate j v)[i]? = some u → w.cell? ((⟨g, 0, none⟩ : Addr).add i) = some u := by
 intro i u hi
 have hij : i < j := by
  have := (List.getElem?_eq_some_iff.1 hi).1
  simpa using this
 have e : (⟨g, 0, none⟩ : Addr).add i = ⟨g, i, none⟩ := by unfold Addr.add; split <;> simp_all
 rw [e, cell_of_row w g i c.toArray t (0, 0) hg]
 have h2 : (c.take m)[i]? = (List.replicate m v)[i]? := by rw [h.2]
 rw [List.getElem?_take, if_pos (by omega)] at h2
 rw [List.getElem?_replicate, if_pos (by omega)] at h2
 rw [List.getElem?_replicate, if_pos hij] at hi
 rw [← hi, ← h2]
 simp
theorem ownN {w : World} {base : Nat} {e : TypeId} {g n : Nat} {xs : List Value} (h : w.ownsRow base e 1 (.slice (some ⟨g, 0, none⟩) n n) n xs) : ∃ c : List Value, w.heap[g]? = some (.cells c.toArray e (0, 0)) ∧ c.length = n := by
 rcases h.2 with ⟨h', _⟩ | ⟨g', cap', cur, h', _, hg, _, _, hc, _⟩
 ·simp at h'
 ·simp only [Value.slice.injEq, Option.some.injEq, Addr.mk.injEq, and_true, true_and] at h'
  obtain ⟨rfl, rfl⟩ := h'
  exact ⟨cur.toList, hg, by simpa using hc⟩
set_option maxRecDepth 100000 in
set_option maxHeartbeats 2000000 in
theorem mul14_any (w : World) :
  Calls Tryz.prog 168 #[.int .u64 1, .int .u64 14] w fun e w' => e = .returned (.tuple #[.int .u64 0, .int .u64 14]) ∧ w = w' := by
 go_enter Tryz.func168, Tryz.ntmps168
 go_wp2
 go_ret2
 exact ⟨rfl, rfl⟩
theorem mulN_any (N : Nat) (hN : N = 8 ∨ N = 14) (w : World) :
  Calls Tryz.prog 168 #[.int .u64 1, .int .u64 (N : Int)] w fun e w' => e = .returned (.tuple #[.int .u64 0, .int .u64 (N : Int)]) ∧ w = w' := by
 rcases hN with rfl | rfl
 ·exact mul18_any w
 ·exact mul14_any w
set_option maxRecDepth 100000 in
set_option maxHeartbeats 4000000 in
theorem repeatN_any (N : Nat) (hN : N = 8 ∨ N = 14) (b : Nat) (w : World) (x : Int) (h : w.cell? ⟨b, 0, none⟩ = some (.int .u8 x)) (hlt : b < w.heap.size) :
  Calls Tryz.prog 105 #[.slice (some ⟨b, 0, none⟩) 1 1, .int .i64 (N : Int)] w fun e w' => ∃ G, e = .returned (.slice (some ⟨G, 0, none⟩) N N) ∧ w.heap.size ≤ G ∧ w'.heap[G]? = some (.cells (List.replicate N (Value.int .u8 x)).toArray 5 (0, 0)) ∧ Below w.heap.size w w' := by
 obtain ⟨i0, hi, hz0, hz1, hz2⟩ := info_parts Repeat.info8
 have HC := Lib.hid h
 have hN1 : 1 ≤ N ∧ N ≤ 14 := by omega
 have w1_ : IntKind.u64.wrap (N : Int) = (N : Int) := by rcases hN with rfl | rfl <;> rfl
 have w2_ : IntKind.i64.wrap (N : Int) = (N : Int) := by rcases hN with rfl | rfl <;> rfl
 have HMh := fun w => Lib.hid (mulN_any N hN w)
 have n1 : decide ((N : Int) < 0) = false := decide_eq_false (by omega)
 have n2 : decide ((9223372036854775807 : Int) < (N : Int)) = false := decide_eq_false (by omega)
 clear h hN
 go_enter Tryz.func105, Tryz.ntmps105
 go_wp2_with fail
 refine (HMh _).out.mono ?_
 rintro e w' ⟨rfl, rfl⟩
 go_wp2_with (first
  | (at_make; refine wpList_make_full _ rfl (.tmp 29) (.tmp 29) 153 rfl w.heap.size 5 i0 (.int .u8 0) 1 Tryz.underlying153 hi hz0 hz1 .i64 .i64 (N : Int) (N : Int) N (by rfl) (by rfl) (by omega) (by omega) (by rw [hz2]; omega) (by unfold maxLen; omega) (Nat.le_refl _) ?_; intro w1 hown hgrow; obtain ⟨cur, hcg, hcl⟩ := ownN hown; have HG1 := Lib.hid hcg; have HL := Lib.hid hcl; have HB := Lib.hid ((Below.refl w.heap.size w).grown hgrow (Nat.le_refl _) (fun _ h => by cases h)); have HC1 := Lib.hid ((HB.out.cell (p := ⟨b, 0, none⟩) hlt).trans HC.out); clear hown hgrow hcg hcl)
  | (refine wpList_copy_h rfl (.tmp 31) (.tmp 32) 153 153 rfl 5 Tryz.underlying153 Repeat.one8 (some ⟨w.heap.size, 0, none⟩) (some ⟨b, 0, none⟩) N N 1 1 rfl rfl w.heap.size 0 cur 5 HG1.out [.int .u8 x] (by show 1 = min 1 N; omega) (fun _ => ⟨rfl, ⟨b, 0, none⟩, rfl, one_cells HC1.out⟩) (by rw [HL.out]; show 0 + 1 ≤ N; omega) (by simp [Value.oneCell']) ?_; intro w2 hg ho; have HG2 := Lib.hid hg; have HO2 := Lib.hid ho; have HE2 := Lib.hid (FillN.first (v := .int .u8 x) hN1.1 HL.out); clear hg ho))
 have h1 : w.heap.size < w1.heap.size := (Array.getElem?_eq_some_iff.1 HG1.out).1
 go_loopw [8] (fun n wr => ∃ (m : Nat) (c : List Value), n = .int .i64 (m : Int) ∧ 1 ≤ m ∧ m ≤ N ∧ FillN N (.int .u8 x) m c ∧ wr.heap[w.heap.size]? = some (.cells c.toArray 5 (0, 0)) ∧ Below w.heap.size w wr) (fun n _ => N - (intOf n).toNat)
 case atStart => exact ⟨1, _, rfl, by omega, by omega, HE2.out, HG2.out, HO2.out.below HB.out (Nat.le_refl _) (Nat.le_of_lt h1)⟩
 case round =>
  obtain ⟨m, c, rfl, hm1, hmN, hf, hg, hb⟩ := hrel
  have HF := Lib.hid hf
  have HG := Lib.hid hg
  have lG : w.heap.size < wr.heap.size := (Array.getElem?_eq_some_iff.1 hg).1
  clear hf hg
  by_cases hlt2 : m < N
  ·have q1 : decide ((m : Int) < (N : Int)) = true := decide_eq_true (by omega)
   have q2 : (0 : Int) ≤ (m : Int) := by omega
   have q3 : (m : Int) ≤ (N : Int) := by omega
   have q4 : ¬ N = m := by omega
   obtain ⟨j, hj⟩ : ∃ j, Nat.min m (N - m) = j := ⟨_, rfl⟩
   have hj1 : 1 ≤ j ∧ j ≤ m ∧ m + j ≤ N := by
    have : min m (N - m) = j := hj
    omega
   have w3_ : IntKind.i64.wrap ((m : Int) + (j : Int)) = ((m + j : Nat) : Int) := by rw [IntWalk.i64_in _ (by omega)]; omega
   go_wp2_with fail
   go_region_law (refine step_copy_h rfl (.tmp 41) (.tmp 44) 153 153 rfl 5 Tryz.underlying153 Repeat.one8 (some ⟨w.heap.size, m, none⟩) (some ⟨w.heap.size, 0, none⟩) (N - m) (N - m) m N (by simp [Act.eval, Act.put]) (by simp [Act.eval, Act.put]) w.heap.size m _ 5 HG.out (List.replicate j (Value.int .u8 x)) (by rw [List.length_replicate]; exact hj.symm) (fun _ => ⟨rfl, ⟨w.heap.size, 0, none⟩, rfl, HF.out.cells HG.out hj1.2.1⟩) (by rw [HF.out.1, List.length_replicate]; exact hj1.2.2) (by simp [Value.oneCell']) ?_; intro w3 hg ho; have HG3 := Lib.hid hg; have HO3 := Lib.hid ho; have HE3 := Lib.hid (HF.out.step hj1.2.2); clear hg ho)
   go_wp2_with fail
   simp only [Act.put, List.getElem_toArray, List.getElem_cons_succ, List.getElem_cons_zero, List.setIfInBounds_toArray, List.set_cons_succ, List.set_cons_zero]
   go_roundw
   case rel => exact ⟨m + j, splice c m (List.replicate j (.int .u8 x)), by first | rfl | go_num, by omega, by omega, HE3.out, HG3.out, HO3.out.undrew.below hb (Nat.le_refl _) (Nat.le_of_lt lG)⟩
   case measure => simp [intOf]; omega
  ·obtain rfl : m = N := by omega
   have q1 : decide ((m : Int) < (m : Int)) = false := decide_eq_false (by omega)
   go_wp2_with fail
   go_ret
   refine ⟨_, rfl, Nat.le_refl _, ?_, hb⟩
   rw [← HF.out.all]
   exact HG.out
def fullL (N : Nat) : List UInt8 := List.replicate N 255
theorem fullL_cells (N : Nat) : bcells (fullL N) = List.replicate N (Value.int .u8 255) := by
 unfold bcells fullL
 rw [List.map_replicate]
 rfl
set_option maxRecDepth 100000 in
set_option maxHeartbeats 4000000 in
theorem l06FillE_any (N : Nat) (hN : N ≤ 100) (w : World) :
  Calls Tryz.prog 87 #[.string ByteArray.empty, .int .i64 (N : Int)] w fun e w' => e = .returned (.string ⟨(fullL N).toArray⟩) ∧ Below w.heap.size w w' := by
 obtain ⟨i0, hi, hz0, hz1, hz2⟩ := info_parts Repeat.info8
 have HI := Lib.hid hi
 clear hi
 go_enter Tryz.func87, Tryz.ntmps87
 go_wp2_with (refine wpList_bytes_buf rfl (.tmp 6) 9 153 5 rfl Tryz.underlying9 Tryz.underlying153 Tryz.underlying5 ByteArray.empty rfl ?_; intro v w1 hv hb; have HV := Lib.hid hv; have HB := Lib.hid hb; clear hv hb)
 go_loopw [5] (fun v wr => ∃ (k : Nat) (V : Value), V = v ∧ k ≤ N ∧ BufB wr w.heap.size V (fullL k) ∧ Below w.heap.size w wr) (fun v _ => match v with | .slice _ n _ => N - n | _ => 0)
 case atStart => exact ⟨0, _, rfl, by omega, HV.out, HB.out⟩
 case round =>
  obtain ⟨k, V, rfl, hk, hv, hb⟩ := hrel
  have HVk := Lib.hid hv
  obtain ⟨g, cap, rfl, hg⟩ : ∃ g cap, V = .slice (some ⟨g, 0, none⟩) k cap ∧ True := by
   obtain ⟨g, cap, h0, _⟩ := hv
   exact ⟨g, cap, by rw [h0]; simp [fullL], trivial⟩
  clear hv hg
  by_cases hlt : k < N
  ·have hd : decide ((k : Int) < (N : Int)) = true := decide_eq_true (by omega)
   have hfl : (fullL k).length = k := by simp [fullL]
   go_wp2_with (at_builtin; refine wpList_append_buf rfl (.tmp 12) (.tmp 13) 153 rfl 5 i0 Tryz.underlying153 HI.out hz0 hz1 hz2 w.heap.size _ _ rfl (HVk.out.kept ((Below.refl _ _).alloc (Nat.le_refl _) _)) 255 ⟨wr.heap.size, 0, none⟩ 1 rfl (cell_new1 _ _ _) (by rw [hfl]; omega) (by have := hb.size; simp; omega) ?_; intro v' w2 hv2 ho2; have HV2 := Lib.hid hv2; have HO2 := Lib.hid ho2; clear hv2 ho2)
   go_roundw
   case rel => exact ⟨k + 1, _, rfl, by omega, by have h := HV2.out; unfold fullL at *; rw [List.replicate_succ']; exact h, HO2.out.below ((hb.alloc hb.size _)) (Nat.le_refl _) (by have := hb.size; simp; omega)⟩
   case measure =>
    obtain ⟨g', cap', h0, _⟩ := HV2.out
    subst h0
    simp [fullL]
    omega
  ·obtain rfl : k = N := by omega
   have hd : decide ((k : Int) < (k : Int)) = false := decide_eq_false (by omega)
   have hcv := HVk.out.conv (P := Tryz.prog) 153 9 5 Tryz.underlying153 Tryz.underlying5 Tryz.underlying9
   go_wp2_with fail
   go_ret
   exact ⟨rfl, hb⟩
end Go.Proofs.YtioldepgoodipaaGreat
namespace Go.Proofs.YtioldepgoodipaaGreat
open Go.RowKit
set_option linter.unusedVariables false

theorem bitI (s : ByteArray) (i : Nat) (h : i < 8 * s.size) : bits .and .i64 (byteAt s (i / 8) / 2 ^ (i % 8)) 1 = ((bitL s.data.toList i : Nat) : Int) := by
 have e : byteAt s (i / 8) = (((s.data.toList[i / 8]?.getD 0).toNat : Nat) : Int) := by
  have h8 : i / 8 < s.size := by omega
  rw [← byteAt_get s (i / 8) h8]
  have : s.data.toList[i / 8]? = some s[i / 8] := by
   rw [List.getElem?_eq_getElem (by simpa using h8)]
   rfl
  rw [this]
  rfl
 have hk : 0 ≤ byteAt s (i / 8) / 2 ^ (i % 8) := Int.ediv_nonneg (byteAt_lo _ _) (Int.pow_nonneg (by decide))
 have hk2 : byteAt s (i / 8) / 2 ^ (i % 8) ≤ 255 := Int.le_trans (Int.ediv_le_self _ (byteAt_lo _ _)) (byteAt_hi _ _)
 have hm := i64_mask (byteAt s (i / 8) / 2 ^ (i % 8)) 1 (by decide) (by omega) (by omega)
 rw [show ((2 : Int) ^ 1 - 1) = 1 by decide] at hm
 rw [hm, e]
 unfold bitL
 simp

set_option maxRecDepth 100000 in
set_option maxHeartbeats 1000000 in
theorem bitsOf1_any (R : Nat) (s : ByteArray) (i : Nat) (W : World) (hR : W.heap[R]? = some (.cells #[.string s] 9 (0, 0))) (hs : s.size ≤ 8000) (hi : i < 8 * s.size) :
  Calls Tryz.prog 241 #[.int .i64 (i : Int), .pointer (some ⟨R, 0, none⟩)] W fun e W' => e = .returned (.int .i64 ((bitL s.data.toList i : Nat) : Int)) ∧ W = W' := by
 have c0 : W.cell? ⟨R, 0, none⟩ = some (.string s) := (cell_of_row W R 0 _ _ (0, 0) hR).trans rfl
 have HO := Lib.hid (bitI s i hi)
 have h8 : i / 8 < s.size := by omega
 have q0 : (0 : Int) ≤ ((i / 8 : Nat) : Int) := by omega
 have q1 : ((i / 8 : Nat) : Int) < (s.size : Int) := by omega
 have d1 : ((i : Nat) : Int).tdiv 8 = ((i / 8 : Nat) : Int) := by
  rw [Int.tdiv_eq_ediv_of_nonneg (by omega)]; omega
 have d2 : ((i : Nat) : Int).tmod 8 = ((i % 8 : Nat) : Int) := by
  rw [Int.tmod_eq_emod_of_nonneg (by omega)]; omega
 have d3 : min (i % 8) 64 = i % 8 := by omega
 have hw : wrap64 (((s[i / 8]'h8).toNat : Nat) : Int) = byteAt s (i / 8) := by
  rw [byteAt_get s (i / 8) h8]
  have := byteAt_lo s (i / 8)
  have := byteAt_hi s (i / 8)
  exact IntWalk.wrap64_in _ (by omega)
 clear hR
 go_enter Tryz.func241, Tryz.ntmps241
 go_wp2
 go_ret
 exact ⟨by rw [← HO.out]; rfl, rfl⟩

theorem bitsOf_any (s : ByteArray) (W : World) :
  Calls Tryz.prog 217 #[.string s] W fun e W' => e = .returned (.func (.func 241) #[] #[.pointer (some ⟨W.heap.size, 0, none⟩)]) ∧ W' = W.alloc (.cells #[.string s] 9) := by
 go_enter Tryz.func217, Tryz.ntmps217
 go_wp2
 go_ret
 exact ⟨rfl, rfl⟩

end Go.Proofs.YtioldepgoodipaaGreat
namespace Go.Proofs.YtioldepgoodipaaGreat
open Go.RowKit
set_option linter.unusedVariables false

theorem turn_cast {b p n q c d : Nat} (hq : b / p = q) (hc : q % 2 = c) (hd : n % 2 = d) : turnB b p n = b - c * p + d * p := by
 unfold turnB
 rw [hq, hc, hd]
set_option maxRecDepth 100000 in
set_option maxHeartbeats 4000000 in
theorem l07Put_any (s : ByteArray) (a w n0 : Nat) (W : World) (hs : s.size ≤ 8000) (ha : a ≤ 1800) (hw : 1 ≤ w) (hw2 : w ≤ 32) (hin : a + w ≤ 8 * s.size) (hn0 : n0 < 4294967296) :
  Calls Tryz.prog 162 #[.string s, .int .i64 (a : Int), .int .i64 (w : Int), .int .i64 (n0 : Int)] W fun e W' => e = .returned (.string ⟨(putB (putBit s.data.toList a w n0) s.size).toArray⟩) ∧ Below W.heap.size W W' := by
 obtain ⟨l, hl⟩ : ∃ l, s.data.toList = l := ⟨_, rfl⟩
 have hse : s = ⟨l.toArray⟩ := by rw [← hl]
 have hsz : s.size = l.length := by rw [← hl]; rfl
 have HSE := Lib.hid (show Value.string s = .string ⟨l.toArray⟩ from congrArg Value.string hse)
 rw [hl]
 rw [hsz] at hs hin ⊢
 clear hse hl hsz
 have HIN := Lib.hid hin
 go_enter Tryz.func162, Tryz.ntmps162
 go_wp2_with (refine wpList_bytes rfl (.tmp 14) 9 153 5 rfl Tryz.underlying9 Tryz.underlying153 Tryz.underlying5 l HSE.out (fun cap u hin2 hb hz hcap => ?_))
 have hG : W.heap.size ≤ W.heap.size := Nat.le_refl _
 have HI := Lib.hid hin2
 have HB := Lib.hid hb
 have HZ := Lib.hid hz
 obtain ⟨G, eG⟩ : ∃ G, W.heap.size = G := ⟨_, rfl⟩
 rw [eG] at HI HZ hG ⊢
 clear hin2 hb hz
 go_loopw [3, 10, 11, 12, 13] (fun n j _ _ _ wr => ∃ k m : Nat, j = .int .i64 (k : Int) ∧ n = .int .i64 (m : Int) ∧ k ≤ w ∧ m = n0 / 2 ^ k ∧ BytesIn wr G (putB (putBit l a k n0) l.length) ∧ Below W.heap.size W wr ∧ G < wr.heap.size) (fun _ j _ _ _ _ => w - (intOf j).toNat)
 case atStart => exact ⟨0, n0, rfl, rfl, Nat.zero_le _, by simp, by rw [putBit_zero, putB_old]; exact HI.out, HB.out, HZ.out⟩
 case round =>
  obtain ⟨k, m, rfl, rfl, hk, hm, hin2, hb, hz⟩ := hrel
  have HM := Lib.hid hm
  have HI2 := Lib.hid hin2
  have HB2 := Lib.hid hb
  have HZ2 := Lib.hid hz
  have hm2 : m < 4294967296 := by rw [hm]; exact Nat.lt_of_le_of_lt (Nat.div_le_self _ _) hn0
  clear hm hin2 hb hz HI HB HZ
  by_cases hkw : k < w
  ·have hin3 : a + k < 8 * l.length := by omega
   have HST := Lib.hid (putB_step l (n := n0) hin3)
   rw [← HM.out] at HST
   obtain ⟨L, hL⟩ : ∃ L, putB (putBit l a k n0) l.length = L := ⟨_, rfl⟩
   have hLl : L.length = l.length := by rw [← hL, putB_length]
   rw [hL] at HST HI2
   obtain ⟨L2, hL2⟩ : ∃ L2, putB (putBit l a (k + 1) n0) l.length = L2 := ⟨_, rfl⟩
   rw [hL2] at HST
   have HL2 := Lib.hid hL2
   obtain ⟨i, hi⟩ : ∃ i, a + k = i := ⟨_, rfl⟩
   have e2 : (a : Int) + (k : Int) = (i : Int) := by omega
   rw [hi] at HST hin3
   obtain ⟨u, hu⟩ : ∃ u, i / 8 = u := ⟨_, rfl⟩
   obtain ⟨e, he⟩ : ∃ e, i % 8 = e := ⟨_, rfl⟩
   have he8 : e < 8 := by omega
   have hul : u < L.length := by omega
   obtain ⟨cu, fu⟩ := HI2.out u hul
   obtain ⟨bt, hbt⟩ : ∃ bt, L[u] = bt := ⟨_, rfl⟩
   have hgd : L[u]?.getD 0 = bt := by rw [List.getElem?_eq_getElem hul, ← hbt]; rfl
   rw [hbt] at cu
   rw [hu, he, hgd] at HST
   have hb8 := byte_lt bt
   obtain ⟨b, hb⟩ : ∃ b, bt.toNat = b := ⟨_, rfl⟩
   rw [hb] at HST cu hb8
   obtain ⟨p, hp⟩ : ∃ p, 2 ^ e = p := ⟨_, rfl⟩
   have hp3 : p = 1 ∨ p = 2 ∨ p = 4 ∨ p = 8 ∨ p = 16 ∨ p = 32 ∨ p = 64 ∨ p = 128 := by rw [← hp]; exact pow8 e he8
   rw [hp] at HST
   have hp0 : (0 : Int) ≤ (e : Int) := by omega
   have hp1 : (e : Int) ≤ 32 := by omega
   have HP := fun W => Lib.hid (l07Pow_any (e : Int) W hp0 hp1)
   have hpe : powI (e : Int) = ((2 ^ e : Nat) : Int) := rfl
   rw [hpe, hp] at HP
   have du : (i : Int) / 8 = (u : Int) := by omega
   have de : (i : Int) % 8 = (e : Int) := by omega
   obtain ⟨q, hq⟩ : ∃ q, b / p = q := ⟨_, rfl⟩
   obtain ⟨c, hc⟩ : ∃ c, q % 2 = c := ⟨_, rfl⟩
   obtain ⟨d, hd⟩ : ∃ d, m % 2 = d := ⟨_, rfl⟩
   rw [turn_cast hq hc hd] at HST
   have hqb : q * p ≤ b := by rw [← hq]; exact Nat.div_mul_le_self _ _
   have hx0 : c * p ≤ b := Nat.le_trans (Nat.mul_le_mul_right _ (by omega)) hqb
   have hlt := turnB_lt (b := b) (p := p) (n := m) hb8 hp3
   rw [turn_cast hq hc hd] at hlt
   obtain ⟨x, hx⟩ : ∃ x, c * p = x := ⟨_, rfl⟩
   obtain ⟨y, hy⟩ : ∃ y, d * p = y := ⟨_, rfl⟩
   have hqi : (b : Int) / (p : Int) = (q : Int) := by rw [← hq]; simp
   have hci : (q : Int) % 2 = (c : Int) := by omega
   have hdi : (m : Int) % 2 = (d : Int) := by omega
   have hxi : (c : Int) * (p : Int) = (x : Int) := by rw [← hx]; simp
   have hyi : (d : Int) * (p : Int) = (y : Int) := by rw [← hy]; simp
   have hmi : (m : Int) / 2 = ((m / 2 : Nat) : Int) := by omega
   obtain ⟨m', hm'⟩ : ∃ m', m / 2 = m' := ⟨_, rfl⟩
   rw [hm'] at hmi
   rw [hx, hy] at HST hlt
   rw [hx] at hx0
   have hp128 : p ≤ 128 := by omega
   have hpp : (0 : Int) < (p : Int) := by omega
   have hpz : ¬ (p : Int) = 0 := by omega
   have hq256 : q < 256 := by rw [← hq]; exact Nat.lt_of_le_of_lt (Nat.div_le_self _ _) hb8
   have hy128 : y ≤ 128 := by
    rw [← hy]
    rcases (show d = 0 ∨ d = 1 by omega) with h | h <;> rw [h] <;> omega
   have hki : (k : Int) < (w : Int) := by omega
   obtain ⟨r, hr⟩ : ∃ r, UInt8.ofNat (b - x + y) = r := ⟨_, rfl⟩
   have hrn : r.toNat = b - x + y := by rw [← hr]; exact ofNat_toNat hlt
   rw [hr] at HST
   have hri : (b : Int) - (x : Int) + (y : Int) = (r.toNat : Int) := by omega
   have hr8 := byte_lt r
   have HMM := Lib.hid hm'
   have hlr : IntKind.u8.wrap ((r.toNat : Nat) : Int) = (r.toNat : Int) := wraps_u8 _ (by omega) (by omega)
   have HSE2 := Lib.hid hLl
   clear hm' hr hrn hx hy hq hc hd hbt hgd hb hp3 hp hpe hu he hi hL hqb hlt hL2
   have hui : (u : Int) < (l.length : Int) := by omega
   have hu0 : (0 : Int) ≤ (u : Int) := by omega
   go_wp2_with (go_at_call 161; refine (HP _).out.mono ?_; rintro e' w' ⟨rfl, rfl⟩)
   go_roundw
   case rel =>
    refine ⟨k + 1, m', by simp, rfl, by omega, ?_, ?_, HB2.out.setCell (p := ⟨G, u, none⟩) (Nat.le_of_eq eG) _, ?_⟩
    ·rw [← HMM.out, HM.out, Nat.pow_succ, Nat.div_div_eq_div_mul]
    ·rw [HL2.out, HST.out]
     exact HI2.out.set u hul r
    ·have := HZ2.out
     simpa [World.setCell] using this
   case measure => first | (simp [intOf]; omega) | simp [intOf]
  ·have hkw2 : k = w := by omega
   subst hkw2
   have hcv := HI2.out.conv (P := Tryz.prog) 153 9 5 Tryz.underlying153 Tryz.underlying5 Tryz.underlying9 l.length (putB_length _ _).symm cap
   have HBG : Below G W wr := eG ▸ HB2.out
   obtain ⟨L, hL⟩ : ∃ L, putB (putBit l a k n0) l.length = L := ⟨_, rfl⟩
   rw [hL] at hcv
   have HL := Lib.hid hL
   clear hL
   have hki : ¬ (k : Int) < (k : Int) := by omega
   go_wp2
   go_ret
   exact ⟨by rw [HL.out]; rfl, HBG⟩

theorem putI_big {s : ByteArray} {a w n : Int} (h : 8000 < s.size) : putI s a w n = [] := if_pos h
theorem putI_off {s : ByteArray} {a w n : Int} (h : ¬ 8000 < s.size) (h2 : hasB s a w = false) : putI s a w n = s.data.toList := by
 unfold putI
 rw [if_neg h, h2]
 rfl
theorem putI_off2 {s : ByteArray} {a w n : Int} (h : ¬ 8000 < s.size) (h2 : inB 0 (powI w - 1) n = false) : putI s a w n = s.data.toList := by
 unfold putI
 rw [if_neg h, h2, Bool.and_false]
 rfl
theorem putI_on {s : ByteArray} {a w n : Nat} (h : ¬ 8000 < s.size) (h2 : hasB s a w = true) (h3 : inB 0 (powI w - 1) n = true) : putI s a w n = putB (putBit s.data.toList a w n) s.size := by
 unfold putI
 rw [if_neg h, h2, h3]
 simp
theorem bits_nat2 {s : ByteArray} {a w : Int} (h : hasB s a w = true) : ∃ x y : Nat, a = (x : Int) ∧ w = (y : Int) ∧ x ≤ 1800 ∧ 1 ≤ y ∧ y ≤ 32 ∧ x + y ≤ 8 * s.size := by
 obtain ⟨h1, h2⟩ := hasB_of h
 obtain ⟨h3, h4, h5, h6⟩ := fieldB_of h1
 exact ⟨a.toNat, w.toNat, by omega, by omega, by omega, by omega, by omega, by omega⟩
theorem text_self (s : ByteArray) : Value.string s = .string ⟨s.data.toList.toArray⟩ := by simp
end Go.Proofs.YtioldepgoodipaaGreat
namespace Go.Proofs.YtioldepgoodipaaGreat
open Go.RowKit
set_option linter.unusedVariables false

def cutF (f : Nat → Nat) (k i : Nat) : Nat := if i < k then f i else 0
theorem cutF_lt {f : Nat → Nat} (hf : ∀ i, f i < 2) (k i : Nat) : cutF f k i < 2 := by
 unfold cutF
 split
 ·exact hf i
 ·omega
theorem numOf_zero {f : Nat → Nat} (w : Nat) : ∀ a, (∀ i, a ≤ i → f i = 0) → numOf f a w = 0 := by
 induction w with
 | zero => intro a h; rfl
 | succ w ih =>
  intro a h
  show f a + 2 * numOf f (a + 1) w = 0
  rw [h a (Nat.le_refl _), ih (a + 1) (fun i hi => h i (by omega))]
theorem numOf_few {f : Nat → Nat} (hf : ∀ i, f i < 2) (w : Nat) : ∀ a e, (∀ i, a + e ≤ i → f i = 0) → numOf f a w < 2 ^ e := by
 induction w with
 | zero => intro a e h; exact Nat.two_pow_pos e
 | succ w ih =>
  intro a e h
  rcases e with _ | e
  ·rw [numOf_zero (w + 1) a (fun i hi => h i (by omega))]
   decide
  ·show f a + 2 * numOf f (a + 1) w < _
   have h1 := hf a
   have h2 := ih (a + 1) e (fun i hi => h i (by omega))
   rw [Nat.pow_succ]
   omega
theorem cutF_same {f : Nat → Nat} {k i : Nat} (h : i ≠ k) : cutF f (k + 1) i = cutF f k i := by
 unfold cutF
 by_cases h1 : i < k
 ·rw [if_pos h1, if_pos (by omega)]
 ·rw [if_neg h1, if_neg (by omega)]
theorem numOf_cut (f : Nat → Nat) {k u : Nat} (hu : k / 8 = u) : numOf (cutF f (k + 1)) (8 * u) 8 = numOf (cutF f k) (8 * u) 8 + f k * 2 ^ (k % 8) := by
 obtain ⟨e, he⟩ : ∃ e, k % 8 = e := ⟨_, rfl⟩
 have e8 : 8 * u + e = k := by omega
 have h := numOf_set (cutF f k) (cutF f (k + 1)) 8 (8 * u) e (by omega) (fun i hi => cutF_same (by omega))
 have e1 : cutF f k k = 0 := by simp [cutF]
 have e2 : cutF f (k + 1) k = f k := by simp [cutF]
 rw [e8, e1, e2] at h
 rw [he]
 generalize numOf (cutF f (k + 1)) (8 * u) 8 = X at *
 generalize numOf (cutF f k) (8 * u) 8 = Y at *
 generalize f k * 2 ^ e = Z at *
 omega
theorem putB_cut (f : Nat → Nat) {k m : Nat} (h : k < 8 * m) :
  putB (cutF f (k + 1)) m = (putB (cutF f k) m).set (k / 8) (UInt8.ofNat (numOf (cutF f k) (8 * (k / 8)) 8 + f k * 2 ^ (k % 8))) := by
 have hq : k / 8 < m := by omega
 rw [← numOf_cut f rfl]
 apply List.ext_getElem?
 intro j
 rcases Nat.lt_or_ge j m with hj | hj
 ·rw [putB_get hj, List.getElem?_set, putB_length]
  by_cases hkk : k / 8 = j
  ·rw [if_pos hkk, if_pos hq, hkk]
  ·rw [if_neg hkk, putB_get hj]
   congr 2
   exact numOf_congr 8 _ fun i h1 h2 => cutF_same (by omega)
 ·rw [List.getElem?_eq_none (by rw [putB_length]; exact hj), List.getElem?_eq_none (by rw [List.length_set, putB_length]; exact hj)]
theorem putB_none (f : Nat → Nat) (m : Nat) : putB (cutF f 0) m = List.replicate m 0 := by
 apply List.ext_getElem?
 intro j
 rcases Nat.lt_or_ge j m with hj | hj
 ·rw [putB_get hj, List.getElem?_replicate, if_pos hj, numOf_zero 8 _ (fun i _ => by simp [cutF])]
  rfl
 ·rw [List.getElem?_eq_none (by rw [putB_length]; exact hj), List.getElem?_eq_none (by simpa using hj)]
theorem putB_all (f : Nat → Nat) (m : Nat) : putB (cutF f (8 * m)) m = putB f m := putB_congr fun i hi => by simp [cutF, hi]

theorem BytesIn.zeros {w : World} {base g m : Nat} {T : TypeId} (h : w.ownsRow base T 1 (.slice (some ⟨g, 0, none⟩) m m) m (madeCells (Value.int .u8 0).cells (m * 1)).toList) : BytesIn w g (List.replicate m 0) ∧ base ≤ g := by
 have e : (madeCells (Value.int .u8 0).cells (m * 1)).toList = List.replicate m (Value.int .u8 0) := by
  rw [show (Value.int .u8 0).cells = #[Value.int .u8 0] from rfl, toList_madeCells_one, Nat.mul_one]
 rw [e] at h
 refine ⟨fun j hj => ?_, ?_⟩
 ·have hj' : j < m := by simpa using hj
  refine ⟨?_, (own_row1 h j hj').2⟩
  rw [World.ownsRow.cellAt h j (by omega), List.getElem?_replicate, if_pos hj']
  simp
 ·exact (World.ownsRow.lt h g rfl).1

theorem Packed.info8 : (Tryz.prog.info? 5).map (fun i => (i.zero, i.size, i.bytes)) = some (some (.int .u8 0), 1, 1) := by kernel_rfl
def bitNums (f : Nat → Nat) (n : Nat) : List Int := (List.range n).map fun i => (f i : Int)
theorem bitNums_get {f : Nat → Nat} {n i : Nat} (h : i < n) : (bitNums f n)[i]? = some ((f i : Nat) : Int) := by
 unfold bitNums
 rw [List.getElem?_map, List.getElem?_range h]
 rfl
set_option maxRecDepth 100000 in
set_option maxHeartbeats 4000000 in
theorem packed_any (f : Nat → Nat) (hf : ∀ i, f i < 2) (g cap m : Nat) (W : World) (hm : m ≤ 1000) (hm0 : 1 ≤ m) (hg : g < W.heap.size) (hc : ∀ i, i < 8 * m → W.cell? ⟨g, i, none⟩ = some (.int .i64 (f i : Int))) :
  Calls Tryz.prog 218 #[.slice (some ⟨g, 0, none⟩) (8 * m) cap] W fun e W' => ∃ G, e = .returned (.slice (some ⟨G, 0, none⟩) m m) ∧ W.heap.size ≤ G ∧ G < W'.heap.size ∧ BytesIn W' G (putB f m) ∧ Below W.heap.size W W' := by
 obtain ⟨i0, hi, hz0, hz1, hz2⟩ := info_parts Packed.info8
 have HF := Lib.hid hf
 have HC := Lib.hid hc
 clear hf hc
 have h8 : (8 * (m : Int)) / 8 = (m : Int) := by omega
 have h8b : ((8 * m : Nat) : Int) / 8 = (m : Int) := by omega
 go_enter Tryz.func218, Tryz.ntmps218
 go_wp2_with (at_make; refine wpList_make_full _ rfl (.tmp 8) (.tmp 8) 153 rfl W.heap.size 5 i0 (.int .u8 0) 1 Tryz.underlying153 hi hz0 hz1 .i64 .i64 (m : Int) (m : Int) m (by rfl) (by rfl) (by omega) (by omega) (by rw [hz2]; omega) (by unfold maxLen; omega) (Nat.le_refl _) ?_; intro w1 hown hgrow)
 obtain ⟨hz, _⟩ := BytesIn.zeros hown
 have hlt := own_lt1 hown
 have hb1 : Below W.heap.size W w1 := (Below.refl _ _).grown hgrow (Nat.le_refl _) (fun _ h => by cases h)
 rw [← putB_none f m] at hz
 have HZ := Lib.hid hz
 clear hz hown hgrow
 obtain ⟨G, eG⟩ : ∃ G, W.heap.size = G := ⟨_, rfl⟩
 have hgG : g < G := by omega
 rw [eG] at HZ hlt hb1 ⊢
 have HB1 := Lib.hid hb1
 clear hb1
 go_loopw [4, 5, 12] (fun _ _ j wr => ∃ k : Nat, j = .int .i64 (k : Int) ∧ k ≤ 8 * m ∧ BytesIn wr G (putB (cutF f k) m) ∧ Below G W wr ∧ G < wr.heap.size) (fun _ _ j _ => 8 * m - (intOf j).toNat)
 case atStart => exact ⟨0, rfl, Nat.zero_le _, HZ.out, HB1.out, hlt⟩
 case round =>
  obtain ⟨k, rfl, hk, hin, hb, hz⟩ := hrel
  have HI := Lib.hid hin
  have HB := Lib.hid hb
  have HZ2 := Lib.hid hz
  clear hin hb hz HZ HB1
  by_cases hkm : k < 8 * m
  ·have hck := (HB.out.cell (p := ⟨g, k, none⟩) hgG).trans (HC.out k hkm)
   have hc2 := HF.out k
   obtain ⟨c, hc⟩ : ∃ c, f k = c := ⟨_, rfl⟩
   have HST := Lib.hid (putB_cut f hkm)
   have hfew := numOf_few (cutF_lt HF.out k) 8 (8 * (k / 8)) (k % 8) (fun i hi => by unfold cutF; rw [if_neg (by omega)])
   obtain ⟨L, hL⟩ : ∃ L, putB (cutF f k) m = L := ⟨_, rfl⟩
   have hLl : L.length = m := by rw [← hL, putB_length]
   have hum : k / 8 < m := by omega
   have hLu : L[k / 8]? = some (UInt8.ofNat (numOf (cutF f k) (8 * (k / 8)) 8)) := by rw [← hL]; exact putB_get hum
   have hb256 := numOf_lt (cutF_lt HF.out k) 8 (8 * (k / 8))
   rw [hc] at HST hc2 hck
   rw [hL] at HST HI
   obtain ⟨L2, hL2⟩ : ∃ L2, putB (cutF f (k + 1)) m = L2 := ⟨_, rfl⟩
   rw [hL2] at HST
   have HL2 := Lib.hid hL2
   obtain ⟨b, hb⟩ : ∃ b, numOf (cutF f k) (8 * (k / 8)) 8 = b := ⟨_, rfl⟩
   rw [hb] at HST hfew hLu hb256
   obtain ⟨u, hu⟩ : ∃ u, k / 8 = u := ⟨_, rfl⟩
   obtain ⟨e, he⟩ : ∃ e, k % 8 = e := ⟨_, rfl⟩
   rw [hu] at HST hum hLu
   rw [he] at HST hfew
   have he8 : e < 8 := by omega
   obtain ⟨cu, fu⟩ := HI.out u (by omega)
   have hLu2 : L[u]'(by omega) = UInt8.ofNat b := by
    have := hLu
    rw [List.getElem?_eq_getElem (by omega)] at this
    exact Option.some.inj this
   rw [hLu2, ofNat_toNat (by omega)] at cu
   obtain ⟨p, hp⟩ : ∃ p, 2 ^ e = p := ⟨_, rfl⟩
   have hp3 : p = 1 ∨ p = 2 ∨ p = 4 ∨ p = 8 ∨ p = 16 ∨ p = 32 ∨ p = 64 ∨ p = 128 := by rw [← hp]; exact pow8 e he8
   rw [hp] at HST hfew
   have hpi : (2 : Int) ^ e = (p : Int) := by rw [← hp]; simp
   have hp128 : p ≤ 128 := by omega
   have hp1 : 1 ≤ p := by omega
   obtain ⟨y, hy⟩ : ∃ y, c * p = y := ⟨_, rfl⟩
   have hyi : (c : Int) * (p : Int) = (y : Int) := by rw [← hy]; simp
   have hy128 : y ≤ 128 := by
    rw [← hy]
    rcases (show c = 0 ∨ c = 1 by omega) with h | h <;> rw [h] <;> omega
   have hlt256 : b + y < 256 := by
    have h2 : b < p := hfew
    rw [← hy]
    rcases (show c = 0 ∨ c = 1 by omega) with h | h <;> rw [h] <;> omega
   have hor : bits .or .u8 (b : Int) (y : Int) = (b : Int) + (y : Int) := by
    rw [← hyi]
    exact u8_join e (by rw [hp]) (by omega) (by omega) (by omega) (by rw [hyi]; omega)
   rw [hy] at HST
   obtain ⟨r, hr⟩ : ∃ r, UInt8.ofNat (b + y) = r := ⟨_, rfl⟩
   have hrn : r.toNat = b + y := by rw [← hr]; exact ofNat_toNat hlt256
   rw [hr] at HST
   have hri : (b : Int) + (y : Int) = (r.toNat : Int) := by omega
   have du : (k : Int) / 8 = (u : Int) := by omega
   have de : (k : Int) % 8 = (e : Int) := by omega
   have HLl := Lib.hid hLl
   have hul : u < L.length := by omega
   have hki : (k : Int) < 8 * (m : Int) := by omega
   have hk0 : (0 : Int) ≤ (k : Int) := by omega
   have hui : (u : Int) < (m : Int) := by omega
   have hu0 : (0 : Int) ≤ (u : Int) := by omega
   clear hfew hLu hLu2 hL hL2 hb hu he hp hp3 hr hrn hy hc hb256
   have du2 : IntKind.i64.wrap ((k : Int).tdiv 8) = (u : Int) := by rw [Int.tdiv_eq_ediv_of_nonneg (by omega), IntWalk.i64_in _ (by omega)]; exact du
   have du3 : IntKind.i64.wrap ((k : Int) / 8) = (u : Int) := by rw [IntWalk.i64_in _ (by omega)]; exact du
   have de2 : (k : Int).tmod 8 = (e : Int) := by rw [Int.tmod_eq_emod_of_nonneg (by omega)]; exact de
   have hm64 : min e 64 = e := by omega
   have hw1 : IntKind.i64.wrap (y : Int) = (y : Int) := IntWalk.i64_in _ (by omega)
   have hw2 : IntKind.u8.wrap (y : Int) = (y : Int) := wraps_u8 _ (by omega) (by omega)
   go_wp2_with fail
   go_region
   go_wp2_with fail
   go_roundw
   case rel =>
    refine ⟨k + 1, by simp, by omega, ?_, (HB.out.setCell (p := ⟨G, u, none⟩) (Nat.le_refl _) _).drew, ?_⟩
    ·rw [HL2.out, HST.out]
     exact (HI.out.set u hul r).drew
    ·have := HZ2.out
     simpa [World.setCell] using this
   case measure => first | (simp [intOf]; omega) | simp [intOf]
  ·have hk8 : k = 8 * m := by omega
   subst hk8
   rw [putB_all] at HI
   have hd : ¬ (((8 * m : Nat) : Int) < 8 * (m : Int)) := by omega
   go_wp2
   go_ret
   exact ⟨G, rfl, Nat.le_refl _, HZ2.out, HI.out, HB.out⟩

def bitClo (R : Nat) : Value := .func (.func 241) #[] #[.pointer (some ⟨R, 0, none⟩)]
theorem bitsWith_any (R : Nat) (a w n : Int) (W : World) :
  Calls Tryz.prog 216 #[bitClo R, .int .i64 a, .int .i64 w, .int .i64 n] W fun e W' => ∃ o0 o1 o2 o3, o0 = Obj.cells #[bitClo R] 226 (0, 0) ∧ o1 = Obj.cells #[.int .i64 a] 2 (0, 0) ∧ o2 = Obj.cells #[.int .i64 w] 2 (0, 0) ∧ o3 = Obj.cells #[.int .i64 n] 2 (0, 0) ∧
   e = .returned (.func (.func 240) #[] #[.pointer (some ⟨W.heap.size + 1, 0, none⟩), .pointer (some ⟨W.heap.size + 2, 0, none⟩), .pointer (some ⟨W.heap.size + 3, 0, none⟩), .pointer (some ⟨W.heap.size, 0, none⟩)]) ∧ W' = (((W.alloc o0).alloc o1).alloc o2).alloc o3 := by
 unfold bitClo
 go_enter Tryz.func216, Tryz.ntmps216
 go_wp2
 go_ret
 exact ⟨_, _, _, _, rfl, rfl, rfl, rfl, rfl, rfl⟩
structure Bw (u : World) (B : Nat) (s : ByteArray) (a w n : Nat) : Prop where
 text : ∃ R, R < u.heap.size ∧ u.heap[R]? = some (.cells #[.string s] 9 (0, 0)) ∧ u.heap[B]? = some (.cells #[bitClo R] 226 (0, 0))
 at_ : u.heap[B + 1]? = some (.cells #[.int .i64 (a : Int)] 2 (0, 0))
 width : u.heap[B + 2]? = some (.cells #[.int .i64 (w : Int)] 2 (0, 0))
 num : u.heap[B + 3]? = some (.cells #[.int .i64 (n : Int)] 2 (0, 0))
theorem Bw.below {u u' : World} {B b : Nat} {s : ByteArray} {a w n : Nat} (h : Bw u B s a w n) (hb : Below b u u') (hB : B + 3 < b) (hb2 : ∀ R, R < u.heap.size → R < b) : Bw u' B s a w n := by
 obtain ⟨⟨R, h1, h2, h3⟩, h4, h5, h6⟩ := h
 exact ⟨⟨R, Nat.lt_of_lt_of_le h1 hb.size, (hb.block R (hb2 R h1)).trans h2, (hb.block B (by omega)).trans h3⟩, (hb.block _ (by omega)).trans h4, (hb.block _ (by omega)).trans h5, (hb.block _ (by omega)).trans h6⟩
theorem putBit_in (l : List UInt8) {a w n i : Nat} (h1 : a ≤ i) (h2 : i < a + w) : putBit l a w n i = n / 2 ^ (i - a) % 2 := if_pos ⟨h1, h2⟩
theorem putBit_out (l : List UInt8) {a w n i : Nat} (h : ¬ (a ≤ i ∧ i < a + w)) : putBit l a w n i = bitL l i := if_neg h
set_option maxRecDepth 100000 in
set_option maxHeartbeats 2000000 in
theorem bitsWith1_any (B : Nat) (s : ByteArray) (a w n i : Nat) (W : World) (h : Bw W B s a w n) (hs : s.size ≤ 8000) (ha : a ≤ 1800) (hw1 : 1 ≤ w) (hw : w ≤ 32) (hn : n < 4294967296) (hi : i < 8 * s.size) :
  Calls Tryz.prog 240 #[.int .i64 (i : Int), .pointer (some ⟨B + 1, 0, none⟩), .pointer (some ⟨B + 2, 0, none⟩), .pointer (some ⟨B + 3, 0, none⟩), .pointer (some ⟨B, 0, none⟩)] W fun e W' => e = .returned (.int .i64 ((putBit s.data.toList a w n i : Nat) : Int)) ∧ W = W' := by
 obtain ⟨⟨R, _, h2, h3⟩, h4, h5, h6⟩ := h
 have c0 : W.cell? ⟨B, 0, none⟩ = some (bitClo R) := (cell_of_row W _ 0 _ _ (0, 0) h3).trans rfl
 have c1 : W.cell? ⟨B + 1, 0, none⟩ = some (.int .i64 (a : Int)) := (cell_of_row W _ 0 _ _ (0, 0) h4).trans rfl
 have c2 : W.cell? ⟨B + 2, 0, none⟩ = some (.int .i64 (w : Int)) := (cell_of_row W _ 0 _ _ (0, 0) h5).trans rfl
 have c3 : W.cell? ⟨B + 3, 0, none⟩ = some (.int .i64 (n : Int)) := (cell_of_row W _ 0 _ _ (0, 0) h6).trans rfl
 unfold bitClo at c0
 by_cases hin : a ≤ i ∧ i < a + w
 ·have HO := Lib.hid (putBit_in s.data.toList (n := n) hin.1 hin.2)
  have hd : inB 0 ((w : Int) - 1) ((i : Int) - (a : Int)) = true := inB_yes (by omega) (by omega)
  obtain ⟨k, hk⟩ : ∃ k, i - a = k := ⟨_, rfl⟩
  rw [hk] at HO
  have hki : (i : Int) - (a : Int) = (k : Int) := by omega
  have hk32 : k < 32 := by omega
  rw [hki] at hd
  obtain ⟨q, hq⟩ : ∃ q, n / 2 ^ k = q := ⟨_, rfl⟩
  rw [hq] at HO
  have hqi : (n : Int) / 2 ^ k = (q : Int) := by rw [← hq]; simp
  have hqn : q < 4294967296 := by rw [← hq]; exact Nat.lt_of_le_of_lt (Nat.div_le_self _ _) hn
  have hm : bits .and .i64 (q : Int) 1 = ((q % 2 : Nat) : Int) := by
   have := i64_mask (q : Int) 1 (by decide) (by omega) (by omega)
   rw [show ((2 : Int) ^ 1 - 1) = 1 by decide] at this
   rw [this]
   simp
  obtain ⟨c, hc⟩ : ∃ c, q % 2 = c := ⟨_, rfl⟩
  rw [hc] at HO hm
  clear hc hq hk
  go_enter Tryz.func240, Tryz.ntmps240
  go_wp2_with (go_at_call 131; refine (from0_any _ _ _).mono ?_; rintro e w' ⟨rfl, rfl⟩)
  go_ret
  exact ⟨by rw [HO.out]; rfl, rfl⟩
 ·have HO := Lib.hid (putBit_out s.data.toList (n := n) hin)
  have hd : inB 0 ((w : Int) - 1) ((i : Int) - (a : Int)) = false := inB_no (by omega)
  have HB := Lib.hid (bitsOf1_any R s i W h2 hs hi)
  generalize bitL s.data.toList i = b at *
  go_enter Tryz.func240, Tryz.ntmps240
  go_wp2_with (first
   | (go_at_call 131; refine (from0_any _ _ _).mono ?_; rintro e w' ⟨rfl, rfl⟩)
   | (go_at_call 241; refine HB.out.mono ?_; rintro e w' ⟨rfl, rfl⟩))
  go_ret
  exact ⟨by rw [HO.out]; rfl, rfl⟩
end Go.Proofs.YtioldepgoodipaaGreat
namespace Go.Proofs.YtioldepgoodipaaGreat
open Go.RowKit
set_option linter.unusedVariables false

theorem splice_at {α : Type} (l C : List α) (k j : Nat) (hk : k + C.length ≤ l.length) : (splice l k C)[j]? = if k ≤ j ∧ j < k + C.length then C[j - k]? else l[j]? := by
 have hlt : (l.take k).length = k := by rw [List.length_take]; omega
 unfold splice
 by_cases hin : k ≤ j ∧ j < k + C.length
 ·rw [if_pos hin, List.getElem?_append_right (by omega), hlt, List.getElem?_append_left (by omega)]
 ·rw [if_neg hin]
  rcases Nat.lt_or_ge j k with h | h
  ·rw [List.getElem?_append_left (by omega), List.getElem?_take, if_pos h]
  ·rw [List.getElem?_append_right (by omega), hlt, List.getElem?_append_right (by omega), List.getElem?_drop]
   congr 1
   omega
theorem BytesIn.get {u : World} {g : Nat} {l : List UInt8} (h : BytesIn u g l) {j : Nat} {x : UInt8} (hj : l[j]? = some x) : u.cell? ⟨g, j, none⟩ = some (.int .u8 (x.toNat : Int)) ∧ u.frozen? ⟨g, j, none⟩ = false := by
 obtain ⟨h1, h2⟩ := List.getElem?_eq_some_iff.1 hj
 have := h j h1
 rwa [h2] at this
theorem BytesIn.of_get {u : World} {g : Nat} {l : List UInt8} (h : ∀ j x, l[j]? = some x → u.cell? ⟨g, j, none⟩ = some (.int .u8 (x.toNat : Int)) ∧ u.frozen? ⟨g, j, none⟩ = false) : BytesIn u g l :=
 fun j hj => h j _ (List.getElem?_eq_getElem hj)
theorem BytesIn.setCells {u : World} {g : Nat} {l C : List UInt8} (h : BytesIn u g l) (k : Nat) (hk : k + C.length ≤ l.length) : BytesIn (u.setCells g k (bcells C)) g (splice l k C) := by
 refine BytesIn.of_get fun j x hj => ?_
 rw [splice_at l C k j hk] at hj
 rw [World.frozen?_setCells]
 by_cases hin : k ≤ j ∧ j < k + C.length
 ·rw [if_pos hin] at hj
  refine ⟨?_, (h j (by omega)).2⟩
  have h1 := World.cell?_setCells_in g (bcells C) k u (fun i hi => by
   rw [bcells_length] at hi
   rw [(h (k + i) (by omega)).1]
   rfl) (j - k) (by rw [bcells_length]; omega)
  rw [show k + (j - k) = j by omega] at h1
  rw [h1, ← List.getElem?_eq_getElem]
  simp [bcells, hj]
 ·rw [if_neg hin] at hj
  rw [World.cell?_setCells_out g (bcells C) k u _ (fun _ _ => by rw [bcells_length]; show j < k ∨ k + C.length ≤ j; omega)]
  exact h.get hj
theorem splice_put (f : Nat → Nat) (l : List UInt8) {F m : Nat} (h : F + m ≤ l.length) (hout : ∀ i, (i < 8 * F ∨ 8 * (F + m) ≤ i) → f i = bitL l i) :
  splice l F (putB (fun j => f (8 * F + j)) m) = putB f l.length := by
 have hshift : ∀ k, numOf (fun j => f (8 * F + j)) (8 * k) 8 = numOf f (8 * (F + k)) 8 := by
  intro k
  have : ∀ w a, numOf (fun j => f (8 * F + j)) a w = numOf f (8 * F + a) w := by
   intro w
   induction w with
   | zero => intro a; rfl
   | succ w ih =>
    intro a
    show f (8 * F + a) + 2 * numOf (fun j => f (8 * F + j)) (a + 1) w = f (8 * F + a) + 2 * numOf f (8 * F + a + 1) w
    rw [ih]
    rfl
  rw [this, show 8 * F + 8 * k = 8 * (F + k) by omega]
 have hpl := putB_length (fun j => f (8 * F + j)) m
 apply List.ext_getElem?
 intro j
 rw [splice_at l _ F j (by rw [hpl]; exact h), hpl]
 rcases Nat.lt_or_ge j l.length with hj | hj
 ·rw [putB_get hj]
  by_cases hin : F ≤ j ∧ j < F + m
  ·rw [if_pos hin, putB_get (by omega), hshift, show F + (j - F) = j by omega]
  ·have e : numOf f (8 * j) 8 = (l[j]?.getD 0).toNat := by
    rw [← numOf_byte]
    exact numOf_congr 8 _ fun i h1 h2 => hout i (by omega)
   rw [if_neg hin, e, List.getElem?_eq_getElem hj]
   simp
 ·rw [if_neg (by omega), List.getElem?_eq_none hj, List.getElem?_eq_none (by rw [putB_length]; exact hj)]
section
variable {P : Program} {ops : Array Oper} {rest : List Oper} {o : Oper} {a : Act} {w : World} {Q : Exit → Act → World → Prop}
theorem step_copy_bytes {K : Act → World → Prop} {E : Prop} (hgd : o.guard = none) (d s : Operand) (dT sT : TypeId) (ho : o.op = .call { callee := .builtin .copy, args := #[d, s], argTypes := #[dT, sT] })
  (elem : TypeId) (hu : P.underlying dT = some (.slice elem)) (hsz : (P.info? elem).map (·.size) = some 1) (g off dLen dCap g2 sLen sCap : Nat) (hd : a.eval d = .slice (some ⟨g, off, none⟩) dLen dCap) (hs : a.eval s = .slice (some ⟨g2, 0, none⟩) sLen sCap)
  (l C : List UInt8) (hg : BytesIn w g l) (hC : BytesIn w g2 C) (hn : C.length = sLen) (hle : sLen ≤ dLen) (hfit : off + sLen ≤ l.length)
  (h : ∀ w', BytesIn w' g (splice l off C) → Out g (g + 1) w w' → K (a.put o.dst (goInt C.length)) w') :
  if Region.wanted o (yielded ops a.tmps) = true then Oper.wp P o a w K Q else E := by
 have hw : Region.wanted o (yielded ops a.tmps) = true := by simp [Region.wanted, hgd]
 rw [if_pos hw]
 have hbl := bcells_length C
 have hrun := run_copy_cells (P := P) w dT sT o.type elem g off dLen dCap ⟨g2, 0, none⟩ sLen sCap (bcells C) hu hsz (by rw [hbl, hn]; exact (Nat.min_eq_left hle).symm)
  (fun j v hj => by
   have hj2 : j < C.length := by
    have := (List.getElem?_eq_some_iff.1 hj).1
    rwa [hbl] at this
   have e : (⟨g2, 0, none⟩ : Addr).add j = ⟨g2, j, none⟩ := by unfold Addr.add; split <;> simp_all
   rw [e, (hC j hj2).1, ← hj]
   simp [bcells, hj2])
  (fun j hj => by rw [hbl] at hj; rw [(hg (off + j) (by omega)).1]; rfl)
  (fun j hj => by rw [hbl] at hj; exact (hg (off + j) (by omega)).2) (bcells_one C)
 unfold Oper.wp
 simp [execOp, ho, resolve, invoke, builtin, hd, hs, hrun, Result.andThen, hbl]
 exact h _ (hg.setCells off (by omega)) (out_setCells g _ w off)
end
def withClo (B : Nat) : Value := .func (.func 240) #[] #[.pointer (some ⟨B + 1, 0, none⟩), .pointer (some ⟨B + 2, 0, none⟩), .pointer (some ⟨B + 3, 0, none⟩), .pointer (some ⟨B, 0, none⟩)]
theorem bitsWith_bw (R : Nat) (s : ByteArray) (a w n : Nat) (W : World) (hR : R < W.heap.size) (hR2 : W.heap[R]? = some (.cells #[.string s] 9 (0, 0))) :
  Calls Tryz.prog 216 #[bitClo R, .int .i64 (a : Int), .int .i64 (w : Int), .int .i64 (n : Int)] W fun e W' => e = .returned (withClo W.heap.size) ∧ Bw W' W.heap.size s a w n ∧ Below W.heap.size W W' ∧ W.heap.size + 3 < W'.heap.size := by
 refine (bitsWith_any R a w n W).mono ?_
 rintro e W' ⟨o0, o1, o2, o3, h0, h1, h2, h3, he, hw⟩
 have e0 := heap_alloc_new W o0
 have z0 : (W.alloc o0).heap.size = W.heap.size + 1 := by simp
 have b0 := Below.heap_alloc W o0 R hR
 have l0 : Below W.heap.size W (W.alloc o0) := (Below.refl _ _).alloc (Nat.le_refl _) _
 generalize W.alloc o0 = W1 at *
 have e1 := heap_alloc_new W1 o1
 have z1 : (W1.alloc o1).heap.size = W1.heap.size + 1 := by simp
 have b1 : ∀ k, k < W1.heap.size → _ := fun k hk => Below.heap_alloc W1 o1 k hk
 have l1 : Below W.heap.size W (W1.alloc o1) := l0.alloc l0.size _
 generalize W1.alloc o1 = W2 at *
 have e2 := heap_alloc_new W2 o2
 have z2 : (W2.alloc o2).heap.size = W2.heap.size + 1 := by simp
 have b2 : ∀ k, k < W2.heap.size → _ := fun k hk => Below.heap_alloc W2 o2 k hk
 have l2 : Below W.heap.size W (W2.alloc o2) := l1.alloc l1.size _
 generalize W2.alloc o2 = W3 at *
 have e3 := heap_alloc_new W3 o3
 have z3 : (W3.alloc o3).heap.size = W3.heap.size + 1 := by simp
 have b3 : ∀ k, k < W3.heap.size → _ := fun k hk => Below.heap_alloc W3 o3 k hk
 have l3 : Below W.heap.size W (W3.alloc o3) := l2.alloc l2.size _
 rw [← hw] at e3 z3 b3 l3
 rw [z0] at e1
 rw [z1, z0] at e2
 rw [z2, z1, z0] at e3
 subst h0 h1 h2 h3
 refine ⟨he, ⟨⟨R, by omega, ?_, ?_⟩, ?_, ?_, ?_⟩, l3, by omega⟩
 ·rw [b3 R (by omega), b2 R (by omega), b1 R (by omega), b0]; exact hR2
 ·rw [b3 _ (by omega), b2 _ (by omega), b1 _ (by omega)]; exact e0
 ·rw [b3 _ (by omega), b2 _ (by omega)]; exact e1
 ·rw [b3 _ (by omega)]; exact e2
 ·exact e3
theorem bitNums_succ (f : Nat → Nat) (n : Nat) : bitNums f (n + 1) = bitNums f n ++ [((f n : Nat) : Int)] := by
 unfold bitNums
 rw [List.range_succ, List.map_append]
 rfl
theorem Put3.info : (Tryz.prog.info? 2).map (fun i => (i.zero, i.size, i.bytes)) = some (some (.int .i64 0), 1, 8) := by kernel_rfl
theorem Put3.one8 : (Tryz.prog.info? 5).map (·.size) = some 1 := by kernel_rfl
theorem grown_below {u u' : World} {base T n B : Nat} {v : Value} {xs : List Value} (h : u.ownsRow base T 1 v n xs) (hg : u.grownBy u' v.ownBlock) {W : World} (hB : Below B W u) (hb : B ≤ base) (hs : B ≤ u.heap.size) : Below B W u' :=
 hB.grown hg hs fun k hk => Nat.le_trans hb (World.ownsRow.lt h k hk).1
set_option maxRecDepth 100000 in
set_option maxHeartbeats 4000000 in
theorem implPutBits_on (s : ByteArray) (a w n : Nat) (W : World) (hs : s.size ≤ 8000) (ha : a ≤ 1800) (hw1 : 1 ≤ w) (hw : w ≤ 32) (hn : inB 0 (powI (w : Int) - 1) (n : Int) = true) (hh : hasB s (a : Int) (w : Int) = true) (hin : a + w ≤ 8 * s.size) :
  Calls Tryz.prog 172 #[.string s, .int .i64 (a : Int), .int .i64 (w : Int), .int .i64 (n : Int)] W fun e W' => e = .returned (.string ⟨(putB (putBit s.data.toList a w n) s.size).toArray⟩) ∧ Below W.heap.size W W' := by
 obtain ⟨i0, hi, hz0, hz1, hz2⟩ := info_parts Put3.info
 have hs' : s.size ≤ maxLen := by unfold maxLen; omega
 have hd : decide (8000 < (s.size : Int)) = false := by simp; omega
 have HI := fun W => Lib.hid (implHasBits_any s a w W (by omega))
 have hp1 := powI_pos (w : Int)
 have hp2 := powI_le (w := (w : Int)) (by omega)
 have hn2 := inB_of hn
 have hsh : wrap64 (2 ^ w) = powI (w : Int) := by
  have h1 := shl_pow (w : Int) (by omega) (by omega)
  have hm : min (w : Int).toNat 64 = w := by omega
  rw [hm, Int.one_mul] at h1
  exact (IntWalk.i64_left _).symm.trans h1
 generalize powI (w : Int) = p at *
 have hn3 : n < 4294967296 := by omega
 obtain ⟨F, hF⟩ : ∃ F, a / 8 = F := ⟨_, rfl⟩
 obtain ⟨L, hL⟩ : ∃ L, (a + w - 1) / 8 = L := ⟨_, rfl⟩
 have hFL : F ≤ L := by omega
 have hLs : L < s.size := by omega
 have hFi : (a : Int) / 8 = (F : Int) := by omega
 have hLi : ((a : Int) + (w : Int) - 1) / 8 = (L : Int) := by omega
 have hL8 : L < 8000 := by omega
 have HFL := Lib.hid (And.intro hF hL)
 have hp64 : wrap64 (p - 1) = p - 1 := IntWalk.wrap64_in _ (by omega)
 clear hF hL hn2
 go_enter Tryz.func172, Tryz.ntmps172
 go_wp2_with (first
   | (go_at_call 169; refine (tooLong_any _ _ hs').mono ?_; rintro e w' ⟨rfl, rfl⟩)
   | (go_at_call 215; refine (HI _).out.mono ?_; rintro e w1 ⟨rfl, hb1⟩)
   | (go_at_call 131; refine (from0_any _ _ _).mono ?_; rintro e w' ⟨rfl, rfl⟩))
 refine (bitsOf_any s _).mono ?_
 rintro e U ⟨rfl, rfl⟩
 have HR := Lib.hid (heap_alloc_new w1 (.cells #[.string s] 9))
 have hU : Below W.heap.size W (w1.alloc (.cells #[.string s] 9)) := hb1.alloc hb1.size _
 have hl : w1.heap.size < (w1.alloc (.cells #[.string s] 9)).heap.size := by simp
 generalize w1.alloc (.cells #[.string s] 9) = U at *
 generalize w1.heap.size = R at *
 have HU := Lib.hid hU
 clear hU hb1 hsh hp64 hn
 go_wp2_with fail
 refine (bitsWith_bw R s a w n U hl HR.out).mono ?_
 rintro e U2 ⟨rfl, hbw, hb2, hz2'⟩
 obtain ⟨B, eB⟩ : ∃ B, U.heap.size = B := ⟨_, rfl⟩
 rw [eB] at hbw hz2' ⊢
 have HBW := Lib.hid hbw
 have HU2 := Lib.hid (HU.out.trans (hb2.mono HU.out.size))
 unfold withClo
 clear hbw hb2
 go_wp2_with fail
 rw [hLi]
 obtain ⟨m, hm⟩ : ∃ m, L - F + 1 = m := ⟨_, rfl⟩
 have hm6 : m ≤ 6 := by have := HFL.out; omega
 obtain ⟨g, hg⟩ : ∃ g, (fun j => putBit s.data.toList a w n (8 * F + j)) = g := ⟨_, rfl⟩
 have hgl : ∀ j, g j < 2 := fun j => by rw [← hg]; exact putBit_lt _ _ _ _ _
 have HC := fun (k : Nat) (W : World) (h : Bw W B s a w n) (hk : 8 * F + k < 8 * s.size) => (bitsWith1_any B s a w n (8 * F + k) W h hs ha hw1 hw hn3 hk)
 have HC2 : ∀ (k : Nat) (W : World), Bw W B s a w n → 8 * F + k < 8 * s.size → (Calls Tryz.prog 240 #[.int .i64 ((8 * F + k : Nat) : Int), .pointer (some ⟨B + 1, 0, none⟩), .pointer (some ⟨B + 2, 0, none⟩), .pointer (some ⟨B + 3, 0, none⟩), .pointer (some ⟨B, 0, none⟩)] W fun e W' => e = .returned (.int .i64 ((g k : Nat) : Int)) ∧ W = W') := by
  rw [← hg]
  exact HC
 clear HC
 have HG := Lib.hid hg
 have HGL := Lib.hid hgl
 clear hg hgl
 have hZ : B + 3 < U2.heap.size := hz2'
 go_loopw [12, 13] (fun v pl wr => ∃ k : Nat, pl = .int .i64 ((8 * F + k : Nat) : Int) ∧ k ≤ 8 * m ∧ wr.ownsRow U2.heap.size 2 1 v k (ncells (bitNums g k)) ∧ Below U2.heap.size U2 wr) (fun _ pl _ => 8 * F + 8 * m - (intOf pl).toNat)
 case atStart => exact ⟨0, by go_num, Nat.zero_le _, World.ownsRow_nil _ _ _ _, Below.refl _ _⟩
 case round =>
  obtain ⟨k, rfl, hk, hown, hb⟩ := hrel
  have HOW := Lib.hid hown
  have HB := Lib.hid hb
  clear hown hb
  have hlm : 8 * (L + 1) = 8 * F + 8 * m := by omega
  by_cases hkm : k < 8 * m
  ·have hi8 : 8 * F + k < 8 * s.size := by omega
   have HBWr := HBW.out.below HB.out hZ (fun R hR => hR)
   have HCk := Lib.hid (HC2 k wr HBWr hi8)
   have HNS := Lib.hid (bitNums_succ g k)
   obtain ⟨c, hc⟩ : ∃ c, g k = c := ⟨_, rfl⟩
   rw [hc] at HCk HNS
   clear hc
   obtain ⟨i, hxi⟩ : ∃ i, 8 * F + k = i := ⟨_, rfl⟩
   rw [hxi] at HCk hi8 ⊢
   have HXI := Lib.hid hxi
   have hlt : (i : Int) < 8 * ((L : Int) + 1) := by omega
   have hi64 : i < 64000 := by omega
   have hNI : NumsIn (wr.alloc (.cells #[.int .i64 (c : Int)] 2)) (some ⟨wr.heap.size, 0, none⟩) [(c : Int)] := .inr ⟨wr.heap.size, 0, rfl, by simp, fun j x hj => by
    rcases j with _ | j
    ·simp at hj
     subst hj
     exact cell_new1 _ _ _
    ·simp at hj⟩
   have HNI := Lib.hid hNI
   clear hNI hxi HBWr
   go_wp2_with (first
    | (go_at_call 240; refine HCk.out.mono ?_; rintro e w' ⟨rfl, rfl⟩)
    | (at_builtin; refine wpList_append_nums rfl (.tmp 54) (.tmp 58) 24 rfl U2.heap.size 2 i0 (.int .i64 0) 8 Tryz.underlying24 hi hz0 hz1 hz2 rfl _ k (ncells (bitNums g k)) rfl (HOW.out.alloc _) (some ⟨wr.heap.size, 0, none⟩) 1 [(c : Int)] 1 rfl rfl HNI.out (by unfold maxLen; omega) (by omega) (by have := HB.out.size; simp; omega) ?_; intro v' w3 hown3 hgrow3; have HB3 := Lib.hid (grown_below (HOW.out.alloc (.cells #[.int .i64 (c : Int)] 2)) hgrow3 (HB.out.alloc HB.out.size _) (Nat.le_refl _) (by have := HB.out.size; simp; omega)); have HOW3 := Lib.hid hown3; clear hown3 hgrow3))
   go_roundw
   case rel =>
    refine ⟨k + 1, by rw [← HXI.out]; go_num, by omega, ?_, HB3.out⟩
    rw [HNS.out, ncells_append]
    exact HOW3.out
   case measure => first | (simp [intOf]; omega) | simp [intOf]
  ·have hkm2 : k = 8 * m := by omega
   subst hkm2
   obtain ⟨i, hxi⟩ : ∃ i, 8 * F + 8 * m = i := ⟨_, rfl⟩
   rw [hxi] at hlm ⊢
   have hlt : ¬ ((i : Int) < 8 * ((L : Int) + 1)) := by omega
   go_wp2_with (refine wpList_bytes rfl (.tmp 60) 9 153 5 rfl Tryz.underlying9 Tryz.underlying153 Tryz.underlying5 s.data.toList (text_self s) (fun cap u hin2 hb hz hcap => ?_))
   have hl := HOW.out
   obtain ⟨gb, capb, rfl⟩ := Joins.ownsRow_form hl (by omega)
   have hgb := World.ownsRow.lt hl gb rfl
   have hcells : ∀ j, j < 8 * m → u.cell? ⟨gb, j, none⟩ = some (.int .i64 (g j : Int)) := fun j hj => by
    rw [hb.cell (p := ⟨gb, j, none⟩) hgb.2, World.ownsRow.cellAt hl j (by omega)]
    exact ncells_at _ _ _ (bitNums_get hj)
   have hub : gb < u.heap.size := Nat.lt_of_lt_of_le hgb.2 hb.size
   have HPk := fun (W' : World) (h : W'.heap = u.heap) => packed_any g HGL.out gb capb m W' (by omega) (by omega) (by rw [h]; exact hub) (fun j hj => (World.cell?_of_block (w := u) (w' := W') (a := ⟨gb, j, none⟩) (by rw [h])).trans (hcells j hj))
   have HPK := Lib.hid HPk
   have HIN := Lib.hid hin2
   have HBU := Lib.hid hb
   have HZU := Lib.hid hz
   have hFm : F + m ≤ s.size := by omega
   have hmF : m ≤ s.size - F := by omega
   have hcap' : s.size ≤ cap := hcap
   have hF1 : ¬ ((s.size : Int) < (F : Int)) := by omega
   have hF0 : (0 : Int) ≤ (F : Int) := by omega
   have hcF : ¬ cap = F := by omega
   have hF2 : (F : Int) ≤ (s.size : Int) := by omega
   have hF3 : (F : Int) ≤ (cap : Int) := by omega
   have HPL := Lib.hid (putB_length g m)
   clear HPk hcells hl hin2 hb hz hcap HOW HC2
   obtain ⟨Gw, eGw⟩ : ∃ Gw, wr.heap.size = Gw := ⟨_, rfl⟩
   rw [eGw] at HIN HBU HZU ⊢
   go_region_law (first
    | (refine step_copy_bytes rfl (.tmp 64) (.tmp 66) 153 153 rfl 5 Tryz.underlying153 Put3.one8 Gw F (s.size - F) (cap - F) Gp m m (by simp [Act.eval]) (by simp [Act.eval]) s.data.toList (putB g m) HIN4.out HINP.out HPL.out hmF hFm ?_; intro w5 hin5 ho5; have HIN5 := Lib.hid hin5; have HO5 := Lib.hid ho5; clear hin5 ho5)
    | (go_simp; go_at_call 218; refine (HPK.out u.drew rfl).mono ?_; rintro e w4 ⟨Gp, rfl, hGp, hGp2, hinp, h4⟩; have HIN4 := Lib.hid (HIN.out.drew.below h4 HZU.out); have HINP := Lib.hid hinp; have H4 := Lib.hid h4; clear hinp h4))
   all_goals
    have h1 : Below W.heap.size W wr := HU2.out.trans (HB.out.mono HU2.out.size)
    have h2 : Below W.heap.size W u := h1.trans (HBU.out.mono (by rw [← eGw]; exact h1.size))
    have h3 : Below W.heap.size W w4 := h2.drew.trans (H4.out.mono h2.size)
    have h5 : Below W.heap.size W w5 := HO5.out.below h3 (by rw [← eGw]; exact h1.size) h3.size
    have H5 := Lib.hid h5
    have hsz : s.data.toList.length = s.size := rfl
    have hspl := splice_put (putBit s.data.toList a w n) s.data.toList (F := F) (m := m) (by rw [hsz]; exact hFm) (fun i hi => putBit_out _ (by have := HFL.out; omega))
    have hgg := HG.out
    have hin5 := HIN5.out
    rw [← hgg, hspl, hsz] at hin5
    have hcv := hin5.conv (P := Tryz.prog) 153 9 5 Tryz.underlying153 Tryz.underlying5 Tryz.underlying9 s.size (putB_length _ _).symm cap
    clear h1 h2 h3 h5 hspl hgg hin5
    obtain ⟨O, hO⟩ : ∃ O, putB (putBit s.data.toList a w n) s.size = O := ⟨_, rfl⟩
    rw [hO] at hcv
    have HO := Lib.hid hO
    clear hO
    go_wp2_with fail
    go_ret
    exact ⟨by rw [HO.out]; rfl, H5.out⟩

set_option maxRecDepth 100000 in
set_option maxHeartbeats 2000000 in
theorem implPutBits_any (s : ByteArray) (a w n : Int) (W : World) (hs : s.size ≤ maxLen) :
  Calls Tryz.prog 172 #[.string s, .int .i64 a, .int .i64 w, .int .i64 n] W fun e W' => e = .returned (.string ⟨(putI s a w n).toArray⟩) ∧ Below W.heap.size W W' := by
 by_cases h : 8000 < s.size
 ·have HO := Lib.hid (putI_big (a := a) (w := w) (n := n) h)
  go_enter Tryz.func172, Tryz.ntmps172
  go_wp2_with (go_at_call 169; refine (tooLong_any _ _ hs).mono ?_; rintro e w' ⟨rfl, rfl⟩)
  go_ret
  exact ⟨by rw [HO.out]; rfl, Below.refl _ _⟩
 have hd : decide (8000 < (s.size : Int)) = false := by simp; omega
 have hs8 : s.size ≤ 1000000 := by omega
 have HI := fun W => Lib.hid (implHasBits_any s a w W hs8)
 have hz8 : ByteArray.empty.size ≤ 1000000 := by decide
 have hee : ByteArray.empty.data.toList ++ s.data.toList = s.data.toList := List.nil_append _
 have HJ := fun W => Lib.hid (joined_any ByteArray.empty s W hz8 hs8)
 rw [hee] at HJ
 rcases Bool.eq_false_or_eq_true (hasB s a w) with h1 | h1
 ·have hh := h1
  obtain ⟨x, y, rfl, rfl, k1, k2, k3, k4⟩ := bits_nat2 h1
  rcases Bool.eq_false_or_eq_true (inB 0 (powI (y : Int) - 1) n) with h2 | h2
  ·have hin := inB_of h2
   obtain ⟨n, rfl⟩ := Int.eq_ofNat_of_zero_le hin.1
   rw [putI_on h h1 h2]
   exact implPutBits_on s x y n W (by omega) k1 k2 k3 h2 hh k4
  ·have HO := Lib.hid (putI_off2 (a := (x : Int)) h h2)
   have hp1 := powI_pos (y : Int)
   have hp2 := powI_le (w := (y : Int)) (by omega)
   have hsh : wrap64 (2 ^ y) = powI (y : Int) := by
    have h1 := shl_pow (y : Int) (by omega) (by omega)
    have hm : min (y : Int).toNat 64 = y := by omega
    rw [hm, Int.one_mul] at h1
    exact (IntWalk.i64_left _).symm.trans h1
   generalize powI (y : Int) = p at *
   have hp64 : wrap64 (p - 1) = p - 1 := IntWalk.wrap64_in _ (by omega)
   go_enter Tryz.func172, Tryz.ntmps172
   go_wp2_with (first
    | (go_at_call 169; refine (tooLong_any _ _ hs).mono ?_; rintro e w' ⟨rfl, rfl⟩)
    | (go_at_call 215; refine (HI _).out.mono ?_; rintro e w1 ⟨rfl, hb1⟩)
    | (go_at_call 131; refine (from0_any _ _ _).mono ?_; rintro e w' ⟨rfl, rfl⟩)
    | (go_at_call 170; refine (HJ _).out.mono ?_; rintro e w2 ⟨rfl, hb2⟩))
   go_ret
   exact ⟨by rw [HO.out]; rfl, hb1.trans (hb2.mono hb1.size)⟩
 ·have HO := Lib.hid (putI_off (n := n) h h1)
  go_enter Tryz.func172, Tryz.ntmps172
  go_wp2_with (first
   | (go_at_call 169; refine (tooLong_any _ _ hs).mono ?_; rintro e w' ⟨rfl, rfl⟩)
   | (go_at_call 215; refine (HI _).out.mono ?_; rintro e w1 ⟨rfl, hb1⟩)
   | (go_at_call 170; refine (HJ _).out.mono ?_; rintro e w2 ⟨rfl, hb2⟩))
  go_ret
  exact ⟨by rw [HO.out]; rfl, hb1.trans (hb2.mono hb1.size)⟩
end Go.Proofs.YtioldepgoodipaaGreat
namespace Go.Proofs.YtioldepgoodipaaGreat
open Go.RowKit
set_option linter.unusedVariables false

theorem tell_none (w n : Int) (g : Bool) : tellI w g 2 n = topI w g := rfl
theorem tell_err (w n : Int) (g : Bool) : tellI w g 3 n = topI w g - 1 := rfl
theorem tell_num {w k n : Int} {g : Bool} (h2 : ¬ k = 2) (h3 : ¬ k = 3) : tellI w g k n = n := by simp [tellI, h2, h3]
set_option maxRecDepth 100000 in
set_option maxHeartbeats 4000000 in
theorem meant_any (a w : Int) (g : Bool) (k n : Int) (W : World) (hf : fieldB a w = true) :
  Calls Tryz.prog 171 #[fdV a w g, vlV k n] W fun e W' => e = .returned (.int .i64 (tellI w g k n)) ∧ Below W.heap.size W W' := by
 have HFd := Lib.hid (twoF W a w g k n)
 have HVl := Lib.hid (twoV W a w g k n)
 have HB := Lib.hid (twoB W a w g k n)
 have HM := fun U => Lib.hid (mostOf_any a w g U hf)
 obtain ⟨_, _, h2, h3⟩ := fieldB_of hf
 have ht := topI_in g h2 h3
 by_cases hk : k = 2
 ·subst hk
  have HO := Lib.hid (tell_none w n g)
  generalize topI w g = tt at *
  generalize tellI w g 2 n = r at *
  unfold fdV vlV at *
  go_enter Tryz.func171, Tryz.ntmps171
  go_wp2_with (go_at_call 214; refine (HM _).out.mono ?_; rintro e w1 ⟨rfl, hb1⟩)
  go_ret
  exact ⟨by rw [HO.out]; rfl, HB.out.trans (hb1.mono HB.out.size)⟩
 ·have hd2 : (k == 2) = false := decide_eq_false hk
  by_cases hk3 : k = 3
  ·subst hk3
   have HO := Lib.hid (tell_err w n g)
   generalize topI w g = tt at *
   generalize tellI w g 3 n = r at *
   unfold fdV vlV at *
   go_enter Tryz.func171, Tryz.ntmps171
   go_wp2_with (go_at_call 214; refine (HM _).out.mono ?_; rintro e w1 ⟨rfl, hb1⟩)
   go_ret
   exact ⟨by rw [HO.out]; rfl, HB.out.trans (hb1.mono HB.out.size)⟩
  ·have hd3 : (k == 3) = false := decide_eq_false hk3
   have HO := Lib.hid (tell_num (w := w) (n := n) (g := g) hk hk3)
   unfold fdV vlV at *
   generalize tellI w g k n = r at *
   go_enter Tryz.func171, Tryz.ntmps171
   go_wp2
   go_ret
   exact ⟨by rw [HO.out]; rfl, HB.out⟩
end Go.Proofs.YtioldepgoodipaaGreat
namespace Go.Proofs.YtioldepgoodipaaGreat
open Go.RowKit
set_option linter.unusedVariables false

end Go.Proofs.YtioldepgoodipaaGreat
namespace Go.Proofs.YtioldepgoodipaaGreat
open Go.RowKit
set_option linter.unusedVariables false

theorem twoKept {U w1 : World} {R : Nat} {a w : Int} {g : Bool} {T : TypeId} (hb : Below U.heap.size U w1) (hR : R < U.heap.size) (h : U.heap[R]? = some (.cells #[.int .i64 a, .int .i64 w, .bool g] T (0, 0))) :
  w1.cell? ⟨R, 0, none⟩ = some (.int .i64 a) ∧ w1.cell? ⟨R, 1, none⟩ = some (.int .i64 w) ∧ w1.cell? ⟨R, 2, none⟩ = some (.bool g) := fdCells ((hb.block R hR).trans h)
theorem fput_big {s : ByteArray} {a w k n : Int} {g : Bool} (h : 8000 < s.size) : fputI s a w g k n = [] := if_pos h
theorem fput_off {s : ByteArray} {a w k n : Int} {g : Bool} (h : ¬ 8000 < s.size) (h2 : valB a w g k n = false) : fputI s a w g k n = s.data.toList := by
 unfold fputI
 rw [if_neg h, h2]
 rfl
theorem fput_on {s : ByteArray} {a w : Nat} {k n : Int} {g : Bool} (h : ¬ 8000 < s.size) (h2 : valB a w g k n = true) (h3 : hasB s a w = true) : fputI s a w g k n = putB (putBit s.data.toList a w (bitsI w (tellI w g k n)).toNat) s.size := by
 unfold fputI
 rw [if_neg h, h2, h3]
 simp
theorem valB_field {a w k n : Int} {g : Bool} (h : valB a w g k n = true) : fieldB a w = true := by
 unfold valB at h
 simp only [Bool.and_eq_true] at h
 exact h.1
theorem and_pow {T w : Int} (hw : 1 ≤ w) (hw2 : w ≤ 32) (h0 : -4294967296 ≤ T) (h1 : T ≤ 4294967296) : bits .and .i64 T (powI w - 1) = T % powI w := by
 have e : (2 : Int) ^ w.toNat = ((2 ^ w.toNat : Nat) : Int) := by simp
 obtain ⟨k, hk⟩ : ∃ k, w.toNat = k := ⟨_, rfl⟩
 have hk2 : k ≤ 62 := by omega
 unfold powI
 rw [← e, hk]
 exact i64_mask T k hk2 (by omega) (by omega)
theorem tell_in {a w k n : Int} {g : Bool} (h : valB a w g k n = true) : lowI a w g ≤ tellI w g k n ∧ tellI w g k n ≤ topI w g := by
 have hf := valB_field h
 obtain ⟨_, _, h0, h1⟩ := fieldB_of hf
 have ht := topI_in g h0 h1
 have hl := lowI_in g hf
 by_cases hk : k = 1
 ·subst hk
  rw [valB_num hf] at h
  have hb := inB_of h
  have e : tellI w g 1 n = n := rfl
  rw [e]
  rw [highI_on hf] at hb
  split at hb <;> omega
 ·rw [valB_else hf hk] at h
  simp only [Bool.and_eq_true, decide_eq_true_eq] at h
  obtain ⟨hk2, _, hw4⟩ := h
  have hk3 := inB_of hk2
  have h4 := powI_four hw4
  have h5 := powI_step h0
  have h6 : 1 ≤ topI w g := by
   unfold topI
   split <;> omega
  unfold tellI
  split
  ·omega
  ·rw [if_pos (by omega)]; omega
theorem bits_in {a w k n : Int} {g : Bool} (h : valB a w g k n = true) : 0 ≤ bitsI w (tellI w g k n) ∧ bitsI w (tellI w g k n) ≤ powI w - 1 ∧ -(powI (w - 1)) ≤ tellI w g k n ∧ tellI w g k n ≤ powI w - 1 := by
 have hf := valB_field h
 obtain ⟨_, _, h0, h1⟩ := fieldB_of hf
 have h2 := tell_in h
 have h5 := powI_step h0
 have h6 := powI_pos (w - 1)
 have h7 : topI w g ≤ powI w - 1 := by unfold topI; split <;> omega
 have h8 : -(powI (w - 1)) ≤ lowI a w g := by
  cases g
  ·rw [lowI_plain]; omega
  ·rw [lowI_on hf]; exact Int.le_refl _
 unfold bitsI
 split <;> omega
theorem fput_put {s : ByteArray} {a w k n : Int} {g : Bool} (h : ¬ 8000 < s.size) (h2 : valB a w g k n = true) : putI s a w (bitsI w (tellI w g k n)) = fputI s a w g k n := by
 have hb := bits_in h2
 unfold putI fputI
 rw [if_neg h, if_neg h, h2, inB_yes hb.1 hb.2.1, Bool.and_true, Bool.true_and]
end Go.Proofs.YtioldepgoodipaaGreat
namespace Go.Proofs.YtioldepgoodipaaGreat
open Go.RowKit
set_option linter.unusedVariables false
set_option maxRecDepth 100000 in
set_option maxHeartbeats 4000000 in
theorem implFieldPut_any (s : ByteArray) (a w : Int) (g : Bool) (k n : Int) (W : World) (hs : s.size ≤ maxLen) :
  Calls Tryz.prog 106 #[.string s, fdV a w g, vlV k n] W fun e W' => e = .returned (.string ⟨(fputI s a w g k n).toArray⟩) ∧ Below W.heap.size W W' := by
 have HFd := Lib.hid (twoF W a w g k n)
 have HVl := Lib.hid (twoV W a w g k n)
 have HB := Lib.hid (twoB W a w g k n)
 obtain ⟨O, hO⟩ : ∃ O, fputI s a w g k n = O := ⟨_, rfl⟩
 rw [hO]
 by_cases h : 8000 < s.size
 ·have HO := Lib.hid (hO.symm.trans (fput_big h))
  have hd : decide (8000 < (s.size : Int)) = true := decide_eq_true (by omega)
  have HL := fun U => Lib.hid (tooLong_any s U hs)
  rw [hd] at HL
  clear hO
  unfold fdV vlV
  go_enter Tryz.func106, Tryz.ntmps106
  go_wp2_with fail
  refine ((HL _).out).mono ?_
  rintro e w' ⟨rfl, rfl⟩
  go_wp2
  go_ret
  exact ⟨by rw [HO.out]; rfl, HB.out⟩
 have hd : decide (8000 < (s.size : Int)) = false := decide_eq_false (by omega)
 have HL := fun U => Lib.hid (tooLong_any s U hs)
 rw [hd] at HL
 have HR := fun U => Lib.hid (implValueRight_any a w g k n U)
 have hs8 : s.size ≤ 1000000 := by omega
 have hz8 : ByteArray.empty.size ≤ 1000000 := by decide
 have hee : ByteArray.empty.data.toList ++ s.data.toList = s.data.toList := List.nil_append _
 have HJ := fun W => Lib.hid (joined_any ByteArray.empty s W hz8 hs8)
 rw [hee] at HJ
 rcases Bool.eq_false_or_eq_true (valB a w g k n) with h2 | h2
 ·have hf := valB_field h2
  obtain ⟨_, _, hw1, hw2⟩ := fieldB_of hf
  obtain ⟨y, rfl⟩ : ∃ y : Nat, w = (y : Int) := ⟨w.toNat, by omega⟩
  have hb := bits_in h2
  have HM := fun U => Lib.hid (meant_any a y g k n U hf)
  have HS := fun U => Lib.hid (implPutBits_any s a y (bitsI y (tellI y g k n)) U hs)
  rw [fput_put h h2, hO] at HS
  have hmb := mask_bits hw1 hb.2.2.1 hb.2.2.2
  generalize tellI (y : Int) g k n = T at *
  generalize bitsI (y : Int) T = N at *
  have hp1 := powI_pos (y : Int)
  have hp2 := powI_le hw2
  have hp3 : -4294967296 ≤ T := by
   have := powI_le (w := (y : Int) - 1) (by omega)
   omega
  have hand : bits .and .i64 T (powI (y : Int) - 1) = N := (and_pow hw1 hw2 hp3 (by omega)).trans hmb
  have hT1 : T ≤ 4294967295 := by omega
  have hm64 : min y 64 = y := by omega
  have hp4 : wrap64 (powI (y : Int) - 1) = powI (y : Int) - 1 := IntWalk.wrap64_in _ (by omega)
  have hp5 : IntKind.i64.wrap (powI (y : Int) - 1) = powI (y : Int) - 1 := (IntWalk.i64_left _).trans hp4
  have hsh2 : IntKind.i64.wrap (2 ^ y) = powI (y : Int) := by
   have h1 := shl_pow (y : Int) (by omega) (by omega)
   have hm : min (y : Int).toNat 64 = y := by omega
   rw [hm, Int.one_mul] at h1
   exact h1
  generalize powI (y : Int) = p at *
  clear hO hmb hb
  unfold fdV vlV at *
  go_enter Tryz.func106, Tryz.ntmps106
  go_wp2_with fail
  refine ((HL _).out).mono ?_
  rintro e w' ⟨rfl, rfl⟩
  go_wp2_with fail
  refine ((HR _).out).mono ?_
  rintro e w1 ⟨rfl, hb1⟩
  have H1 := Lib.hid (hb1)
  clear hb1
  obtain ⟨y0, y1, y2⟩ := twoKept H1.out (by simp; omega) HFd.out
  obtain ⟨z0, z1⟩ := vlCells ((H1.out.block (W.heap.size + 1) (by simp)).trans HVl.out)
  go_wp2_with fail
  have hl1 : W.heap.size < w1.heap.size := by have := H1.out.size; simp at this; omega
  have hl2 : W.heap.size + 1 < w1.heap.size := by have := H1.out.size; simp at this; omega
  have HC0 := fun U (hU : Below w1.heap.size w1 U) => Lib.hid (fdCells ((hU.block W.heap.size hl1).trans ((H1.out.block W.heap.size (by simp; omega)).trans HFd.out)))
  have HC1 := fun U (hU : Below w1.heap.size w1 U) => Lib.hid (vlCells ((hU.block (W.heap.size + 1) hl2).trans ((H1.out.block (W.heap.size + 1) (by simp)).trans HVl.out)))
  have HB1 := Lib.hid (HB.out.trans (H1.out.mono HB.out.size))
  clear hp4 y0 y1 y2 z0 z1
  refine wp_region_quiet (C := fun U => Below w1.heap.size w1 U) (by kernel_rfl) (by kernel_rfl) (Below.refl _ _).drew ?_
  dsimp only
  go_big_quiet_want; refine ⟨.agg #[.int .i64 a, .int .i64 (y : Int), .bool g], fun U hU => (by obtain ⟨e0, e1, e2⟩ := (HC0 U hU).out; simp [Oper.quietAt, Oper.quietUpon, go_sem, e0, e1, e2]), ?_⟩; simp only [Act.put, List.setIfInBounds_toArray, List.set_cons_zero, List.set_cons_succ]; go_big_quiet_on
  go_big_quiet_want; refine ⟨.agg #[.int .i64 k, .int .i64 n], fun U hU => (by obtain ⟨e0, e1⟩ := (HC1 U hU).out; simp [Oper.quietAt, Oper.quietUpon, go_sem, e0, e1]), ?_⟩; simp only [Act.put, List.setIfInBounds_toArray, List.set_cons_zero, List.set_cons_succ]; go_big_quiet_on
  go_big_quiet_want; go_big_quiet_op; refine ⟨_, fun U hU => quietCall hU ((fun U => (HM U).out) U), ?_⟩; go_big_quiet_on
  go_big_quiet_want; go_big_quiet_op; first | go_big_quiet_on | (refine ⟨_, fun _ _ => rfl, ?_⟩; go_big_quiet_on)
  go_big_quiet_want; refine ⟨.int .i64 (y : Int), fun U hU => (by obtain ⟨e0, e1, e2⟩ := (HC0 U hU).out; simp [Oper.quietAt, Oper.quietUpon, go_sem, e1]), ?_⟩; simp only [Act.put, List.setIfInBounds_toArray, List.set_cons_zero, List.set_cons_succ]; go_big_quiet_on
  go_big_quiet_want; refine ⟨.int .i64 p, fun U hU => (by simp [Oper.quietAt, Oper.quietUpon, go_sem, hsh2]), ?_⟩; simp only [Act.put, List.setIfInBounds_toArray, List.set_cons_zero, List.set_cons_succ]; go_big_quiet_on
  go_big_quiet_want; refine ⟨.int .i64 (p - 1), fun U hU => (by simp [Oper.quietAt, Oper.quietUpon, go_sem, hp5]), ?_⟩; simp only [Act.put, List.setIfInBounds_toArray, List.set_cons_zero, List.set_cons_succ]; go_big_quiet_on
  go_big_quiet_want; refine ⟨.int .i64 N, fun U hU => (by simp [Oper.quietAt, Oper.quietUpon, go_sem, hand]), ?_⟩; simp only [Act.put, List.setIfInBounds_toArray, List.set_cons_zero, List.set_cons_succ]; go_big_quiet_on
  go_big_quiet_want; go_big_quiet_op; first | go_big_quiet_on | (refine ⟨_, fun _ _ => rfl, ?_⟩; go_big_quiet_on)
  refine wpQuiet_nil ?_
  intro X hX
  have HX := Lib.hid (H1.out.trans (hX.mono H1.out.size))
  obtain ⟨y0, y1, y2⟩ := twoKept HX.out (by simp; omega) HFd.out
  go_wp2_with fail
  refine (HS _).out.mono ?_
  rintro e w4 ⟨rfl, hb4⟩
  go_wp2
  go_ret
  exact ⟨rfl, (HB.out.trans (HX.out.mono HB.out.size)).trans (hb4.mono (Nat.le_trans HB.out.size HX.out.size))⟩
 ·have HO := Lib.hid (hO.symm.trans (fput_off h h2))
  clear hO
  unfold fdV vlV at *
  go_enter Tryz.func106, Tryz.ntmps106
  go_wp2_with fail
  refine ((HL _).out).mono ?_
  rintro e w' ⟨rfl, rfl⟩
  go_wp2_with fail
  refine ((HR _).out).mono ?_
  rintro e w1 ⟨rfl, hb1⟩
  have H1 := Lib.hid (hb1)
  clear hb1
  obtain ⟨y0, y1, y2⟩ := twoKept H1.out (by simp; omega) HFd.out
  obtain ⟨z0, z1⟩ := vlCells ((H1.out.block (W.heap.size + 1) (by simp)).trans HVl.out)
  go_wp2_with fail
  refine ((HJ _).out).mono ?_
  rintro e w2 ⟨rfl, hb2⟩
  have H2 := Lib.hid (H1.out.trans (hb2.mono H1.out.size))
  clear hb2
  clear y0 y1 y2 z0 z1
  obtain ⟨y0, y1, y2⟩ := twoKept H2.out (by simp; omega) HFd.out
  obtain ⟨z0, z1⟩ := vlCells ((H2.out.block (W.heap.size + 1) (by simp)).trans HVl.out)
  go_wp2
  go_ret
  exact ⟨by rw [HO.out]; rfl, HB.out.trans (H2.out.mono HB.out.size)⟩
end Go.Proofs.YtioldepgoodipaaGreat
namespace Go.Proofs.YtioldepgoodipaaGreat
open Go.RowKit
set_option linter.unusedVariables false
set_option maxRecDepth 100000 in
set_option maxHeartbeats 4000000 in
theorem l07Set_any (s : ByteArray) (a w : Nat) (g : Bool) (k n : Int) (W : World) (hs : s.size ≤ 8000) (ha : a ≤ 1800) (hw : 1 ≤ w) (hw2 : w ≤ 32) (hin : a + w ≤ 8 * s.size) (hv : valB a w g k n = true) :
  Calls Tryz.prog 88 #[.string s, fdV a w g, vlV k n] W fun e W' => e = .returned (.string ⟨(putB (putBit s.data.toList a w (bitsI w (tellI w g k n)).toNat) s.size).toArray⟩) ∧ Below W.heap.size W W' := by
 have HFd := Lib.hid (twoF W a w g k n)
 have HVl := Lib.hid (twoV W a w g k n)
 have HB := Lib.hid (twoB W a w g k n)
 have HT := fun U => Lib.hid (l07Top_any a w g U (by omega) (by omega))
 have HP := fun U => Lib.hid (l07Pow_any (w : Int) U (by omega) (by omega))
 have hb := bits_in hv
 have hp1 := powI_pos (w : Int)
 have hp2 := powI_le (w := (w : Int)) (by omega)
 have htp := topI_in (w := (w : Int)) g (by omega) (by omega)
 obtain ⟨N, hN⟩ : ∃ N : Nat, bitsI w (tellI w g k n) = (N : Int) := ⟨(bitsI w (tellI w g k n)).toNat, by omega⟩
 have HS := fun U => Lib.hid (l07Put_any s a w N U hs ha hw hw2 hin (by omega))
 have hNt : (bitsI w (tellI w g k n)).toNat = N := by rw [hN]; rfl
 rw [hNt]
 clear hNt
 obtain ⟨O, hO⟩ : ∃ O, putB (putBit s.data.toList a w N) s.size = O := ⟨_, rfl⟩
 rw [hO] at HS ⊢
 clear hO
 obtain ⟨T, hT⟩ : ∃ T, tellI w g k n = T := ⟨_, rfl⟩
 rw [hT] at hN hb
 have hTlo : -4294967296 ≤ T := by
  have := powI_le (w := (w : Int) - 1) (by omega)
  omega
 have hThi : T ≤ 4294967295 := by omega
 by_cases hk : k = 2
 ·subst hk
  have hTT : topI w g = T := (tell_none w n g).symm.trans hT
  rw [hTT] at HT htp
  clear hTT hT
  unfold fdV vlV at *
  go_enter Tryz.func88, Tryz.ntmps88
  go_wp2_with fail
  refine ((HT _).out).mono ?_
  rintro e w1 ⟨rfl, hb1⟩
  have H1 := Lib.hid (hb1)
  clear hb1
  obtain ⟨y0, y1, y2⟩ := twoKept H1.out (by simp; omega) HFd.out
  obtain ⟨z0, z1⟩ := vlCells ((H1.out.block (W.heap.size + 1) (by simp)).trans HVl.out)
  by_cases h0 : T < 0
  ·exfalso; omega
  ·have hTN : T = (N : Int) := by unfold bitsI at hN; rw [if_neg h0] at hN; exact hN
   clear hN hb
   subst hTN
   go_wp2_with fail
   refine (HS _).out.mono ?_
   rintro e w9 ⟨rfl, hb9⟩
   go_wp2
   go_ret
   exact ⟨rfl, (HB.out.trans (H1.out.mono HB.out.size)).trans (hb9.mono (Nat.le_trans HB.out.size H1.out.size))⟩
 have hd2 : (k == 2) = false := decide_eq_false hk
 by_cases hk3 : k = 3
 ·subst hk3
  have hTT : topI w g - 1 = T := (tell_err w n g).symm.trans hT
  generalize topI (w : Int) g = tt at *
  clear hT
  have htt : wrap64 (tt - 1) = T := by rw [hTT]; exact IntWalk.wrap64_in _ (by omega)
  unfold fdV vlV at *
  go_enter Tryz.func88, Tryz.ntmps88
  go_wp2_with fail
  refine ((HT _).out).mono ?_
  rintro e w1 ⟨rfl, hb1⟩
  have H1 := Lib.hid (hb1)
  clear hb1
  obtain ⟨y0, y1, y2⟩ := twoKept H1.out (by simp; omega) HFd.out
  obtain ⟨z0, z1⟩ := vlCells ((H1.out.block (W.heap.size + 1) (by simp)).trans HVl.out)
  by_cases h0 : T < 0
  ·have hTN : T + powI w = (N : Int) := by unfold bitsI at hN; rw [if_pos h0] at hN; exact hN
   clear hN hb
   generalize powI (w : Int) = p at *
   go_wp2_with fail
   refine (HP _).out.mono ?_
   rintro e w' ⟨rfl, rfl⟩
   go_wp2_with fail
   refine (HS _).out.mono ?_
   rintro e w9 ⟨rfl, hb9⟩
   go_wp2
   go_ret
   exact ⟨rfl, (HB.out.trans (H1.out.mono HB.out.size)).trans (hb9.mono (Nat.le_trans HB.out.size H1.out.size))⟩
  ·have hTN : T = (N : Int) := by unfold bitsI at hN; rw [if_neg h0] at hN; exact hN
   clear hN hb
   subst hTN
   go_wp2_with fail
   refine (HS _).out.mono ?_
   rintro e w9 ⟨rfl, hb9⟩
   go_wp2
   go_ret
   exact ⟨rfl, (HB.out.trans (H1.out.mono HB.out.size)).trans (hb9.mono (Nat.le_trans HB.out.size H1.out.size))⟩
 have hd3 : (k == 3) = false := decide_eq_false hk3
 have hTT : n = T := (tell_num hk hk3).symm.trans hT
 subst hTT
 clear hT
 unfold fdV vlV at *
 go_enter Tryz.func88, Tryz.ntmps88
 by_cases h0 : n < 0
 ·have hTN : n + powI w = (N : Int) := by unfold bitsI at hN; rw [if_pos h0] at hN; exact hN
  clear hN hb
  generalize powI (w : Int) = p at *
  go_wp2_with fail
  refine (HP _).out.mono ?_
  rintro e w' ⟨rfl, rfl⟩
  go_wp2_with fail
  refine (HS _).out.mono ?_
  rintro e w9 ⟨rfl, hb9⟩
  go_wp2
  go_ret
  exact ⟨rfl, HB.out.trans (hb9.mono HB.out.size)⟩
 ·have hTN : n = (N : Int) := by unfold bitsI at hN; rw [if_neg h0] at hN; exact hN
  clear hN hb
  subst hTN
  go_wp2_with fail
  refine (HS _).out.mono ?_
  rintro e w9 ⟨rfl, hb9⟩
  go_wp2
  go_ret
  exact ⟨rfl, HB.out.trans (hb9.mono HB.out.size)⟩
end Go.Proofs.YtioldepgoodipaaGreat
namespace Go.Proofs.YtioldepgoodipaaGreat
open Go.RowKit
set_option linter.unusedVariables false

theorem fput_len {s : ByteArray} {a w k n : Int} {g : Bool} (h : s.size ≤ 8000) : (fputI s a w g k n).length = s.size := by
 unfold fputI
 rw [if_neg (by omega)]
 split
 ·exact putB_length _ _
 ·simp
def encTo (F : List Fd) (l : List Vl) (t : List UInt8) : Nat → List UInt8
 | 0 => t
 | k + 1 => fputI ⟨(encTo F l t k).toArray⟩ (fdAt F k).a (fdAt F k).w (fdAt F k).g (vlAt l k).k (vlAt l k).v
theorem encTo_len {F : List Fd} {l : List Vl} {t : List UInt8} (h : t.length ≤ 8000) : ∀ k, (encTo F l t k).length = t.length
 | 0 => rfl
 | k + 1 => by
  have ih := encTo_len (F := F) (l := l) h k
  show (fputI _ _ _ _ _ _).length = _
  rw [fput_len (by show (encTo F l t k).toArray.size ≤ 8000; simpa [ih] using h)]
  show (encTo F l t k).toArray.size = _
  simpa using ih
theorem enc_size {F : List Fd} {l : List Vl} {Z : Nat} (hZ : Z ≤ 100) (k : Nat) : (⟨(encTo F l (fullL Z) k).toArray⟩ : ByteArray).size = Z := by
 show (encTo F l (fullL Z) k).toArray.size = Z
 rw [List.size_toArray, encTo_len (by simp [fullL]; omega)]
 simp [fullL]
def encF (v : Bool) (d : Df) (l : List Vl) : List UInt8 := if v then encTo d.fs l (fullL d.s.toNat) d.fs.length else []
def encL (p : Int) (l : List Vl) : List UInt8 := encF (vrB p l) (defD p) l
set_option maxRecDepth 100000 in
set_option maxHeartbeats 8000000 in
theorem implEncode_any (p : Int) (a2 : Option Addr) (c2 : Nat) (l : List Vl) (w : World) (hl : RsIn vlL 2 w a2 l) (hlen : l.length ≤ maxLen) :
  Calls Tryz.prog 50 #[.int .i64 p, .slice a2 l.length c2] w fun e w' => e = .returned (.string ⟨(encL p l).toArray⟩) ∧ Below w.heap.size w w' := by
 unfold maxLen at hlen
 have hF5 := defD_len p
 have hIn := @defD_in p
 have hS := defD_s p
 have HVR := fun W h => Lib.hid (implValuesRight_any p a2 c2 l W h hlen)
 have HD := fun W => Lib.hid (implDefOf_any p W)
 unfold DefOut at HD
 unfold encL
 have hvr : vrB p l = true → ixD p < 6 ∧ l.length = (defD p).fs.length ∧ ∀ i, i < (defD p).fs.length → vrAt (defD p).fs l i = true := fun h => by
  obtain ⟨h1, h2, h3⟩ := vrF_of h
  exact ⟨of_decide_eq_true h1, h2, h3⟩
 generalize defD p = d at *
 obtain ⟨P, S, R, F⟩ := d
 dsimp only at *
 obtain ⟨E, hE⟩ : ∃ E, encF (vrB p l) ⟨P, S, R, F⟩ l = E := ⟨_, rfl⟩
 rw [hE]
 have hE0 : vrB p l = false → E = [] := fun h => hE.symm.trans (by rw [h]; rfl)
 have hE1 : vrB p l = true → E = encTo F l (fullL S.toNat) F.length := fun h => hE.symm.trans (by rw [h]; rfl)
 clear hE
 have HLv := Lib.hid hl
 clear hl
 go_enter Tryz.func50, Tryz.ntmps50
 go_wp2_with fail
 refine ((HVR _ HLv.out).out).mono ?_
 rintro e w1 ⟨rfl, h⟩
 have HL1 := Lib.hid (show Lg w w1 [] [] from (Lg.first w).kept h)
 clear h
 rcases hV : vrB p l with _ | _
 ·have hv := hE0 hV
  subst hv
  clear HD HVR
  go_wp2_with fail
  go_ret
  exact ⟨rfl, HL1.out.below⟩
 obtain ⟨hix, hln, _⟩ := hvr hV
 have hSz := hS.1 hix
 have HVy := Lib.hid (hE1 hV)
 clear hE0 hE1 hvr hS hV HVR
 obtain ⟨N, hN⟩ : ∃ N, F.length = N := ⟨_, rfl⟩
 have HNl := Lib.hid hN
 have HMl := Lib.hid (hln.trans hN)
 rw [hln, hN]
 rw [hN] at HD hF5 hIn HVy
 clear hN hln
 go_wp2_with fail
 refine ((HD _).out).mono ?_
 rintro e w2 ⟨a, rfl, hn, h⟩
 obtain ⟨L2, e2⟩ : ∃ x, w1.heap.size = x := ⟨_, rfl⟩
 obtain ⟨H2, f2⟩ : ∃ x, w2.heap.size = x := ⟨_, rfl⟩
 have qH2_L2 : L2 ≤ H2 := (by rw [← e2, ← f2]; exact h.size)
 have HL2 := Lib.hid (show Lg w w2 [] [(L2, H2, fun W => RsNew fdL 3 147 L2 H2 W a F)] from HL1.out.made e2 f2 h (by rw [← e2, ← f2]; exact hn.solid))
 clear h hn e2 f2
 obtain ⟨Z, hS8, rfl⟩ : ∃ Z : Nat, (Z = 8 ∨ Z = 14) ∧ S = (Z : Int) := by
  rcases hSz with rfl | rfl
  ·exact ⟨8, .inl rfl, rfl⟩
  ·exact ⟨14, .inr rfl, rfl⟩
 go_wp2_with (first
  | (refine wpList_alloc_h rfl 81 rfl (.agg #[.int .i64 0, .int .i64 0, .int .i64 0, .slice none 0 0]) (by kernel_rfl) #[.int .i64 0, .int .i64 0, .int .i64 0, .slice none 0 0] rfl ?_; intro w3 R3 e3 g3 b3; have qR3_H2 : H2 ≤ R3 := Nat.le_trans (HL2.out.hi (.head _)).2 (Nat.le_of_eq e3); have HL3 := Lib.hid (show Lg w w3 [(R3, #[.int .i64 0, .int .i64 0, .int .i64 0, .slice none 0 0], 81)] [(L2, H2, fun W => RsNew fdL 3 147 L2 H2 W a F)] from HL2.out.box e3 g3 b3); clear g3 b3 e3)
  | (refine wpList_put_at rfl 81 (.tmp 5) (.tmp 14) rfl rfl (R3) 0 rfl _ rfl #[.int .i64 P, .int .i64 (Z : Int), .int .i64 R, .slice a N N] rfl 81 #[.int .i64 0, .int .i64 0, .int .i64 0, .slice none 0 0] #[.int .i64 P, .int .i64 (Z : Int), .int .i64 R, .slice a N N] (HL3.out.get (.head _)) (by kernel_rfl) (by kernel_rfl) (by kernel_rfl) (by kernel_rfl) ?_; intro w4 g4 o4; have HL4 := Lib.hid (show Lg w w4 [(R3, #[.int .i64 P, .int .i64 (Z : Int), .int .i64 R, .slice a N N], 81)] [(L2, H2, fun W => RsNew fdL 3 147 L2 H2 W a F)] from HL3.out.put 0 rfl g4 o4 (fun _ h => nomatch h) (List.forall_mem_cons.2 ⟨.inl qR3_H2, (fun _ h => nomatch h)⟩) rfl); clear g4 o4)
  | (have HLit := Lib.hid (show Lg w (w4.alloc (.cells #[.int .u8 255] 5)) [(R3, #[.int .i64 P, .int .i64 (Z : Int), .int .i64 R, .slice a N N], 81)] [(L2, H2, fun W => RsNew fdL 3 147 L2 H2 W a F)] from HL4.out.kept ((Below.refl _ _).alloc (Nat.le_refl _) _)); refine wpList_load_one rfl 2 (.tmp 16) rfl (R3) 1 rfl 81 #[.int .i64 P, .int .i64 (Z : Int), .int .i64 R, .slice a N N] (0, 0) (HLit.out.get (.head _)) (.int .i64 (Z : Int)) rfl _ Tryz.underlying2 rfl (by kernel_rfl) ?_))
 refine (repeatN_any Z hS8 _ _ 255 (cell_new1 _ _ _) (by simp)).mono ?_
 rintro e w5 ⟨G, rfl, hG, hh, hb5⟩
 have HL5 := Lib.hid (show Lg w w5 [(R3, #[.int .i64 P, .int .i64 (Z : Int), .int .i64 R, .slice a N N], 81)] [(L2, H2, fun W => RsNew fdL 3 147 L2 H2 W a F)] from HLit.out.kept hb5)
 have hcv := conv_row (P := Tryz.prog) (l := fullL Z) hh Z (by simp [fullL]) (by rw [fullL_cells]; simp) 153 9 Tryz.underlying153 Tryz.underlying5 Tryz.underlying9 Z
 clear hh hb5 hG
 go_wp2_with (refine wpList_load_one rfl 79 (.tmp 20) rfl (R3) 3 rfl 81 #[.int .i64 P, .int .i64 (Z : Int), .int .i64 R, .slice a N N] (0, 0) (HL5.out.get (.head _)) (.slice a N N) rfl _ Tryz.underlying79 rfl (by kernel_rfl) ?_)
 have HFl := Lib.hid (HL5.out.at (.head _)).ins
 have HBp := Lib.hid HL5.out.below
 have HLq := Lib.hid (HLv.out.kept HBp.out)
 clear HLit HL5
 go_loopw [6, 23] (fun v i wr => ∃ k : Nat, i = .int .i64 (k : Int) ∧ v = .string ⟨(encTo F l (fullL Z) k).toArray⟩ ∧ k ≤ N ∧ Below w5.heap.size w5 wr) (fun _ i _ => N - (intOf i).toNat)
 case atStart => exact ⟨0, rfl, rfl, by omega, Below.refl _ _⟩
 case round =>
  obtain ⟨k, rfl, rfl, hk, hb⟩ := hrel
  by_cases hkn : k < N
  ·have hi1 : (0 : Int) ≤ (k : Int) := by omega
   have hi2 : (k : Int) < (N : Int) := by omega
   have hkF : k < F.length := by have := HNl.out; omega
   have hkl : k < l.length := by have := HMl.out; omega
   obtain ⟨b, o, rfl, hlt, hc⟩ := HFl.out.at (by omega)
   obtain ⟨b2, o2, rfl, hlt2, hc2⟩ := HLq.out.at (by omega)
   have lv : b2 < wr.heap.size := Nat.lt_of_lt_of_le hlt2 hb.size
   have HCf := Lib.hid (fun j v hv => (hb.cell (p := ⟨b, _, none⟩) hlt).trans (hc k _ (fdAt_some hkF) j v hv))
   have HCv := Lib.hid (fun j v hv => (hb.cell (p := ⟨b2, _, none⟩) hlt2).trans (hc2 k _ (vlAt_some hkl) j v hv))
   have hsz : (⟨(encTo F l (fullL Z) k).toArray⟩ : ByteArray).size ≤ maxLen := by
    rw [enc_size (by omega)]
    unfold maxLen
    omega
   have HPut := fun W => Lib.hid (implFieldPut_any ⟨(encTo F l (fullL Z) k).toArray⟩ (fdAt F k).a (fdAt F k).w (fdAt F k).g (vlAt l k).k (vlAt l k).v W hsz)
   have HE := Lib.hid (show encTo F l (fullL Z) (k + 1) = fputI ⟨(encTo F l (fullL Z) k).toArray⟩ (fdAt F k).a (fdAt F k).w (fdAt F k).g (vlAt l k).k (vlAt l k).v from rfl)
   clear hc hc2 hsz
   generalize encTo F l (fullL Z) k = T at *
   generalize fdAt F k = x at *
   generalize vlAt l k = y at *
   obtain ⟨fa, fw, fg⟩ := x
   obtain ⟨vk, vn⟩ := y
   unfold fdL at HCf
   unfold vlL at HCv
   unfold fdV vlV at HPut
   dsimp only at *
   generalize fputI ⟨T.toArray⟩ fa fw fg vk vn = O at *
   go_wp2_with (first
    | (refine wpList_load_cells rfl 147 (.tmp 26) rfl b (o + k * 3) rfl [.int .i64 fa, .int .i64 fw, .bool fg] HCf.out _ Tryz.underlying147 rfl (by kernel_rfl) ?_)
    | (refine wpList_alloc_h rfl 147 rfl (.agg #[.int .i64 0, .int .i64 0, .bool false]) (by kernel_rfl) #[.int .i64 0, .int .i64 0, .bool false] rfl ?_; intro w1 qR1 e1 g1 b1; have HL1 := Lib.hid (show Lg wr w1 [(qR1, #[.int .i64 0, .int .i64 0, .bool false], 147)] [] from (Lg.first wr).box e1 g1 b1); clear g1 b1 e1)
    | (refine wpList_put_at rfl 147 (.tmp 8) (.tmp 27) rfl rfl (qR1) 0 rfl (.agg #[.int .i64 fa, .int .i64 fw, .bool fg]) rfl #[.int .i64 fa, .int .i64 fw, .bool fg] rfl 147 #[.int .i64 0, .int .i64 0, .bool false] #[.int .i64 fa, .int .i64 fw, .bool fg] (HL1.out.get (.head _)) (by kernel_rfl) (by kernel_rfl) (by kernel_rfl) (by kernel_rfl) ?_; intro w2 g2 o2; have HL2 := Lib.hid (show Lg wr w2 [(qR1, #[.int .i64 fa, .int .i64 fw, .bool fg], 147)] [] from HL1.out.put 0 rfl g2 o2 (fun _ h => nomatch h) (fun _ h => nomatch h) rfl); clear g2 o2))
   refine wp_region_quiet (C := fun W => Below w2.heap.size w2 W) (by kernel_rfl) (by kernel_rfl) (Below.refl _ _).drew ?_
   dsimp only
   go_big_quiet_want; go_big_quiet_op; first | go_big_quiet_on | (refine ⟨_, fun _ _ => rfl, ?_⟩; go_big_quiet_on)
   go_big_quiet_want; refine ⟨.agg #[.int .i64 fa, .int .i64 fw, .bool fg], fun W hW => (quietLoadCells 147 (.tmp 8) rfl qR1 0 rfl [.int .i64 fa, .int .i64 fw, .bool fg] (rowAt0 (HL2.out.get (.head _)) hW) _ Tryz.underlying147 rfl (by kernel_rfl)), ?_⟩; simp only [Act.put, List.setIfInBounds_toArray, List.set_cons_zero, List.set_cons_succ]; go_big_quiet_on
   iterate 3 (go_big_quiet_want; go_big_quiet_op; first | go_big_quiet_on | (refine ⟨_, fun _ _ => rfl, ?_⟩; go_big_quiet_on))
   go_big_quiet_want; refine ⟨.agg #[.int .i64 vk, .int .i64 vn], fun W hW => (quietLoadCells 99 (.tmp 32) rfl b2 (o2 + k * 2) rfl [.int .i64 vk, .int .i64 vn] (grownCells (Nat.lt_of_lt_of_le lv HL2.out.below.size) (fun j v hv => (HL2.out.below.cell (p := ⟨b2, _, none⟩) lv).trans (HCv.out j v hv)) hW) _ Tryz.underlying99 rfl (by kernel_rfl)), ?_⟩; simp only [Act.put, List.setIfInBounds_toArray, List.set_cons_zero, List.set_cons_succ]; go_big_quiet_on
   go_big_quiet_want; go_big_quiet_op; refine ⟨_, fun W hW => quietCall hW (HPut W).out, ?_⟩; go_big_quiet_on
   go_big_quiet_want; go_big_quiet_op; first | go_big_quiet_on | (refine ⟨_, fun _ _ => rfl, ?_⟩; go_big_quiet_on)
   refine wpQuiet_nil ?_
   intro X hX
   have hbX := hb.trans ((HL2.out.below.trans (hX.mono HL2.out.below.size)).mono hb.size)
   go_wp2_with fail
   go_roundw
   case rel => exact ⟨k + 1, by go_num, by rw [HE.out], by omega, hbX⟩
   case measure => simp [intOf]; omega
  ·obtain rfl : k = N := by omega
   have hv := HVy.out
   go_wp2_with fail
   go_ret
   exact ⟨by rw [hv]; rfl, HBp.out.trans (hb.mono HBp.out.size)⟩
set_option maxRecDepth 100000 in
set_option maxHeartbeats 8000000 in
theorem l08Encode_any (p : Int) (a2 : Option Addr) (c2 : Nat) (l : List Vl) (w : World) (hl : RsIn vlL 2 w a2 l) (hlen : l.length ≤ maxLen) (hV : vrB p l = true) :
  Calls Tryz.prog 35 #[.int .i64 p, .slice a2 l.length c2] w fun e w' => e = .returned (.string ⟨(encL p l).toArray⟩) ∧ Below w.heap.size w w' := by
 unfold maxLen at hlen
 have hF5 := defD_len p
 have hIn := @defD_in p
 have hS := defD_s p
 have HD := fun W => Lib.hid (specDefOf_any p W)
 unfold DefOut at HD
 unfold encL
 have hvr : vrB p l = true → ixD p < 6 ∧ l.length = (defD p).fs.length ∧ ∀ i, i < (defD p).fs.length → vrAt (defD p).fs l i = true := fun h => by
  obtain ⟨h1, h2, h3⟩ := vrF_of h
  exact ⟨of_decide_eq_true h1, h2, h3⟩
 generalize defD p = d at *
 obtain ⟨P, S, R, F⟩ := d
 dsimp only at *
 obtain ⟨E, hE⟩ : ∃ E, encF (vrB p l) ⟨P, S, R, F⟩ l = E := ⟨_, rfl⟩
 rw [hE]
 have hE0 : vrB p l = false → E = [] := fun h => hE.symm.trans (by rw [h]; rfl)
 have hE1 : vrB p l = true → E = encTo F l (fullL S.toNat) F.length := fun h => hE.symm.trans (by rw [h]; rfl)
 clear hE
 have HLv := Lib.hid hl
 clear hl
 obtain ⟨hix, hln, hall⟩ := hvr hV
 have hSz := hS.1 hix
 have HVy := Lib.hid (hE1 hV)
 clear hE0 hE1 hvr hS hV
 obtain ⟨N, hN⟩ : ∃ N, F.length = N := ⟨_, rfl⟩
 have HNl := Lib.hid hN
 have HMl := Lib.hid (hln.trans hN)
 have HAl := Lib.hid hall
 rw [hln, hN]
 rw [hN] at HD hF5 hIn HVy
 have HIn := Lib.hid (fun i h => hIn (i := i) h)
 clear hN hln hall hIn
 obtain ⟨Z, hS8, rfl⟩ : ∃ Z : Nat, (Z = 8 ∨ Z = 14) ∧ S = (Z : Int) := by
  rcases hSz with rfl | rfl
  ·exact ⟨8, .inl rfl, rfl⟩
  ·exact ⟨14, .inr rfl, rfl⟩
 clear hSz
 go_enter Tryz.func35, Tryz.ntmps35
 go_wp2_with fail
 refine ((HD _).out).mono ?_
 rintro e w1 ⟨a, rfl, hn, h⟩
 obtain ⟨L1, e1⟩ : ∃ x, w.heap.size = x := ⟨_, rfl⟩
 obtain ⟨H1, f1⟩ : ∃ x, w1.heap.size = x := ⟨_, rfl⟩
 have qH1_L1 : L1 ≤ H1 := (by rw [← e1, ← f1]; exact h.size)
 have HL1 := Lib.hid (show Lg w w1 [] [(L1, H1, fun W => RsNew fdL 3 147 L1 H1 W a F)] from (Lg.first w).made e1 f1 h (by rw [← e1, ← f1]; exact hn.solid))
 clear h hn e1 f1
 go_wp2_with (first
  | (refine wpList_alloc_h rfl 81 rfl (.agg #[.int .i64 0, .int .i64 0, .int .i64 0, .slice none 0 0]) (by kernel_rfl) #[.int .i64 0, .int .i64 0, .int .i64 0, .slice none 0 0] rfl ?_; intro w2 R2 e2 g2 b2; have qR2_H1 : H1 ≤ R2 := Nat.le_trans (HL1.out.hi (.head _)).2 (Nat.le_of_eq e2); have HL2 := Lib.hid (show Lg w w2 [(R2, #[.int .i64 0, .int .i64 0, .int .i64 0, .slice none 0 0], 81)] [(L1, H1, fun W => RsNew fdL 3 147 L1 H1 W a F)] from HL1.out.box e2 g2 b2); clear g2 b2 e2)
  | (refine wpList_put_at rfl 81 (.tmp 5) (.tmp 9) rfl rfl (R2) 0 rfl _ rfl #[.int .i64 P, .int .i64 (Z : Int), .int .i64 R, .slice a N N] rfl 81 #[.int .i64 0, .int .i64 0, .int .i64 0, .slice none 0 0] #[.int .i64 P, .int .i64 (Z : Int), .int .i64 R, .slice a N N] (HL2.out.get (.head _)) (by kernel_rfl) (by kernel_rfl) (by kernel_rfl) (by kernel_rfl) ?_; intro w3 g3 o3; have HL3 := Lib.hid (show Lg w w3 [(R2, #[.int .i64 P, .int .i64 (Z : Int), .int .i64 R, .slice a N N], 81)] [(L1, H1, fun W => RsNew fdL 3 147 L1 H1 W a F)] from HL2.out.put 0 rfl g3 o3 (fun _ h => nomatch h) (List.forall_mem_cons.2 ⟨.inl qR2_H1, (fun _ h => nomatch h)⟩) rfl); clear g3 o3)
  | (refine wpList_load_one rfl 2 (.tmp 10) rfl (R2) 1 rfl 81 #[.int .i64 P, .int .i64 (Z : Int), .int .i64 R, .slice a N N] (0, 0) (HL3.out.get (.head _)) (.int .i64 (Z : Int)) rfl _ Tryz.underlying2 rfl (by kernel_rfl) ?_))
 refine ((l06FillE_any Z (by omega) _)).mono ?_
 rintro e w4 ⟨rfl, h⟩
 have HL4 := Lib.hid (show Lg w w4 [(R2, #[.int .i64 P, .int .i64 (Z : Int), .int .i64 R, .slice a N N], 81)] [(L1, H1, fun W => RsNew fdL 3 147 L1 H1 W a F)] from HL3.out.kept h)
 clear h
 go_wp2_with fail
 have HFl := Lib.hid (HL4.out.at (.head _)).ins
 have HR50 := Lib.hid (HL4.out.get (.head _))
 have HBp := Lib.hid HL4.out.below
 have HLq := Lib.hid (HLv.out.kept HBp.out)
 clear HL1 HL2 HL3 HL4
 go_loopw [6, 7] (fun v i wr => ∃ k : Nat, i = .int .i64 (k : Int) ∧ v = .string ⟨(encTo F l (fullL Z) k).toArray⟩ ∧ k ≤ N ∧ Below w4.heap.size w4 wr) (fun _ i _ => N - (intOf i).toNat)
 case atStart => exact ⟨0, rfl, rfl, by omega, Below.refl _ _⟩
 case round =>
  obtain ⟨k, rfl, rfl, hk, hb⟩ := hrel
  by_cases hkn : k < N
  ·have hi1 : (0 : Int) ≤ (k : Int) := by omega
   have hi2 : (k : Int) < (N : Int) := by omega
   have hkF : k < F.length := by have := HNl.out; omega
   have hkl : k < l.length := by have := HMl.out; omega
   obtain ⟨b, o, rfl, hlt, hc⟩ := HFl.out.at (by omega)
   obtain ⟨b2, o2, rfl, hlt2, hc2⟩ := HLq.out.at (by omega)
   have lv : b2 < wr.heap.size := Nat.lt_of_lt_of_le hlt2 hb.size
   have lf : b < wr.heap.size := Nat.lt_of_lt_of_le hlt hb.size
   have HR5 := Lib.hid ((hb.block _ (Array.getElem?_eq_some_iff.1 HR50.out).1).trans HR50.out)
   have HCf := Lib.hid (fun j v hv => (hb.cell (p := ⟨b, _, none⟩) hlt).trans (hc k _ (fdAt_some hkF) j v hv))
   have HCv := Lib.hid (fun j v hv => (hb.cell (p := ⟨b2, _, none⟩) hlt2).trans (hc2 k _ (vlAt_some hkl) j v hv))
   have hsz : (⟨(encTo F l (fullL Z) k).toArray⟩ : ByteArray).size = Z := enc_size (by omega) k
   obtain ⟨A, B, ha, hbw, q1, q2, q3, q4⟩ := HIn.out k hkn
   have hva := HAl.out k hkF
   unfold vrAt at hva
   have HPut : ∀ W, Hid (Calls Tryz.prog 88 #[.string ⟨(encTo F l (fullL Z) k).toArray⟩, fdV (fdAt F k).a (fdAt F k).w (fdAt F k).g, vlV (vlAt l k).k (vlAt l k).v] W fun e W' => e = .returned (.string ⟨(encTo F l (fullL Z) (k + 1)).toArray⟩) ∧ Below W.heap.size W W') := fun W => Lib.hid (by
    rw [ha, hbw] at hva ⊢
    have h1 : hasB ⟨(encTo F l (fullL Z) k).toArray⟩ (A : Int) (B : Int) = true := hasB_lit q1 q2 q3 (by omega)
    have h2 := l07Set_any ⟨(encTo F l (fullL Z) k).toArray⟩ A B (fdAt F k).g (vlAt l k).k (vlAt l k).v W (by omega) q1 q2 q3 (by omega) hva
    rw [← fput_on (by omega) hva h1] at h2
    rw [← ha, ← hbw] at h2 ⊢
    exact h2)
   clear hc hc2 hsz hva ha hbw q4
   obtain ⟨O, hO⟩ : ∃ O, encTo F l (fullL Z) (k + 1) = O := ⟨_, rfl⟩
   rw [hO] at HPut
   have HO := Lib.hid hO
   clear hO
   generalize encTo F l (fullL Z) k = T at *
   generalize fdAt F k = x at *
   generalize vlAt l k = y at *
   obtain ⟨fa, fw, fg⟩ := x
   obtain ⟨vk, vn⟩ := y
   unfold fdL at HCf
   unfold vlL at HCv
   unfold fdV vlV at HPut
   dsimp only at *
   go_wp2_with fail
   refine wp_region_quiet (C := fun W => Below wr.heap.size wr W) (by kernel_rfl) (by kernel_rfl) (Below.refl _ _).drew ?_
   dsimp only
   iterate 2 (go_big_quiet_want; go_big_quiet_op; first | go_big_quiet_on | (refine ⟨_, fun _ _ => rfl, ?_⟩; go_big_quiet_on))
   go_big_quiet_want; refine ⟨.slice (some ⟨b, o, none⟩) N N, fun W hW => (quietLoadOne 79 (.tmp 20) rfl R2 3 rfl _ (rowCells HR5.out hW _ _ rfl) _ Tryz.underlying79 rfl), ?_⟩; simp only [Act.put, List.setIfInBounds_toArray, List.set_cons_zero, List.set_cons_succ]; go_big_quiet_on
   iterate 2 (go_big_quiet_want; go_big_quiet_op; first | go_big_quiet_on | (refine ⟨_, fun _ _ => rfl, ?_⟩; go_big_quiet_on))
   go_big_quiet_want; refine ⟨.agg #[.int .i64 fa, .int .i64 fw, .bool fg], fun W hW => (quietLoadCells 147 (.tmp 23) rfl b (o + k * 3) rfl [.int .i64 fa, .int .i64 fw, .bool fg] (grownCells lf HCf.out hW) _ Tryz.underlying147 rfl (by kernel_rfl)), ?_⟩; simp only [Act.put, List.setIfInBounds_toArray, List.set_cons_zero, List.set_cons_succ]; go_big_quiet_on
   iterate 3 (go_big_quiet_want; go_big_quiet_op; first | go_big_quiet_on | (refine ⟨_, fun _ _ => rfl, ?_⟩; go_big_quiet_on))
   go_big_quiet_want; refine ⟨.agg #[.int .i64 vk, .int .i64 vn], fun W hW => (quietLoadCells 99 (.tmp 27) rfl b2 (o2 + k * 2) rfl [.int .i64 vk, .int .i64 vn] (grownCells lv HCv.out hW) _ Tryz.underlying99 rfl (by kernel_rfl)), ?_⟩; simp only [Act.put, List.setIfInBounds_toArray, List.set_cons_zero, List.set_cons_succ]; go_big_quiet_on
   go_big_quiet_want; go_big_quiet_op; refine ⟨_, fun W hW => quietCall hW (HPut W).out, ?_⟩; go_big_quiet_on
   go_big_quiet_want; go_big_quiet_op; first | go_big_quiet_on | (refine ⟨_, fun _ _ => rfl, ?_⟩; go_big_quiet_on)
   refine wpQuiet_nil ?_
   intro X hX
   have hbX := hb.trans (hX.mono hb.size)
   go_wp2_with fail
   go_roundw
   case rel => exact ⟨k + 1, by go_num, by rw [HO.out], by omega, hbX⟩
   case measure => simp [intOf]; omega
  ·obtain rfl : k = N := by omega
   have hv := HVy.out
   go_wp2_with fail
   go_ret
   exact ⟨by rw [hv]; rfl, HBp.out.trans (hb.mono HBp.out.size)⟩
end Go.Proofs.YtioldepgoodipaaGreat
namespace Go.Proofs.YtioldepgoodipaaGreat
open Go.RowKit
set_option linter.unusedVariables false

def strL (t : ByteArray) : List Value := [.string t]
theorem strL_len (t : ByteArray) : (strL t).length = 1 := rfl
theorem strL_one (t : ByteArray) : ∀ u ∈ strL t, u.oneCell' = true := by
 intro u hu
 simp [strL] at hu
 subst hu
 rfl
theorem Cut.info : (Tryz.prog.info? 9).map (fun i => (i.zero, i.size, i.bytes)) = some (some (.string ByteArray.empty), 1, 16) := by kernel_rfl
def byN (n : Int) : UInt8 := UInt8.ofNat n.toNat
theorem byN_to {n : Int} (h0 : 0 ≤ n) (h1 : n ≤ 255) : ((byN n).toNat : Int) = n := by
 unfold byN
 rw [UInt8.toNat_ofNat']
 omega
def piece (sq : Int) (d : ByteArray) : Nat → ByteArray
 | 0 => ⟨(fill8 ([byN (32 * sq), byN d.size] ++ d.data.toList)).toArray⟩
 | i + 1 => ⟨(fill8 ([byN (32 * sq + ((i + 1 : Nat) : Int))] ++ d.data.toList.drop (6 + 7 * i))).toArray⟩
def pieces (sq : Int) (d : ByteArray) (n : Nat) : List ByteArray := (List.range n).map (piece sq d)
theorem pieces_length (sq : Int) (d : ByteArray) (n : Nat) : (pieces sq d n).length = n := by simp [pieces]
theorem pieces_succ (sq : Int) (d : ByteArray) (n : Nat) : pieces sq d (n + 1) = pieces sq d n ++ [piece sq d n] := by
 unfold pieces
 rw [List.range_succ, List.map_append]
 rfl
def cutB (sq : Int) (d : ByteArray) : Bool := inB 0 7 sq && (decide (1 ≤ d.size) && decide (d.size ≤ 223))
def cutL (sq : Int) (d : ByteArray) : List ByteArray := if cutB sq d = true then pieces sq d (1 + d.size / 7) else []
theorem toList_extract (s : ByteArray) (i j : Nat) : (s.extract i j).data.toList = (s.data.toList.drop i).take (j - i) := by
 rw [ByteArray.data_extract]
 simp [Array.toList_extract, List.extract]
section
variable {α : Type} {P : Program} {ops : Array Oper} {rest : List Oper} {o : Oper} {a : Act} {w : World} {Q : Exit → Act → World → Prop} {c : α → List Value} {size : Nat}
theorem wpList_lit1o (hc : ∀ x, (c x).length = size) (hgd : o.guard = none) (t : TypeId) (y : Operand) (ho : o.op = .buildSlice t 1 #[(0, y)]) (e : TypeId) (i : TypeInfo) (ht : P.underlying t = some (.slice e)) (hi : P.info? e = some i)
  (z : Value) (hz : i.zero = some z) (hsize : i.size = size) (x : α) (v : Value) (hy : a.eval y = v) (hv : v.cells = (c x).toArray) (hzs : z.cells.size = size) (hsz : 0 < size) (hmax : size ≤ 16777216)
  (h : ∀ w' g, w.heap.size = g → OwnIn c size e g w'.heap.size w' (.slice (some ⟨g, 0, none⟩) 1 1) [x] → Below w.heap.size w w' → wpList P ops Q rest (a.put o.dst (.slice (some ⟨g, 0, none⟩) 1 1)) w') : wpList P ops Q (o :: rest) a w :=
 wpList_plain hgd fun K hK => by
  have hown : (w.alloc (.cells (c x).toArray e)).ownsRow w.heap.size e size (.slice (some ⟨w.heap.size, 0, none⟩) 1 1) 1 (c x) := by
   refine ⟨by rw [hc]; omega, .inr ⟨w.heap.size, 1, (c x).toArray, rfl, Nat.le_refl _, heap_alloc_new w _, Nat.le_refl _, by unfold maxLen; omega, by simp [hc], ?_⟩⟩
   rw [List.take_of_length_le (by simp [hc])]
  have := hK _ _ (h (w.alloc (.cells (c x).toArray e)) _ rfl ⟨by simpa using hown, fun k hk => by simp [Value.ownBlock] at hk; subst hk; simp⟩ ((Below.refl _ _).alloc (Nat.le_refl _) _))
  unfold Oper.wp execOp
  have hlen := hc x
  simp [ho, Instr.buildSlice, run_underlying ht, sizeOf, typeInfo, hi, hz, zeroValue, Instr.fill, newRow, -run_newObj, Result.andThen_ok, hy, hv, hlen, hsize, show ¬ 16777216 < size by omega, show ¬ size = 0 by omega]
  rw [fold_set _ _ 0 (by simp [hlen])]
  simp [-run_newObj]
  exact this
theorem OwnIn.lit (hc : ∀ x, (c x).length = size) (w : World) (e : TypeId) (x : α) : OwnIn c size e w.heap.size (w.alloc (.cells (c x).toArray e)).heap.size (w.alloc (.cells (c x).toArray e)) (.slice (some ⟨w.heap.size, 0, Option.none⟩) 1 1) [x] := by
 refine ⟨⟨by simp [hc], .inr ⟨w.heap.size, 1, (c x).toArray, rfl, Nat.le_refl _, heap_alloc_new w _, Nat.le_refl _, by unfold maxLen; omega, by simp [hc], ?_⟩⟩, fun k hk => by simp [Value.ownBlock] at hk; subst hk; simp⟩
 rw [List.take_of_length_le (by simp [hc])]
 simp
theorem OwnIn.widenLo {e : TypeId} {lo lo' hi : Nat} {v : Value} {l : List α} (h : OwnIn c size e lo hi w v l) (h1 : lo' ≤ lo) : OwnIn c size e lo' hi w v l := by
 obtain ⟨⟨h0, h2⟩, h3⟩ := h
 refine ⟨⟨h0, ?_⟩, h3⟩
 rcases h2 with h2 | ⟨g, cap, cur, rfl, hb, k⟩
 ·exact .inl h2
 ·exact .inr ⟨g, cap, cur, rfl, Nat.le_trans h1 hb, k⟩
theorem step_append_rs {K : Act → World → Prop} {E : Prop} (hc : ∀ x, (c x).length = size) (hone : ∀ x, ∀ u ∈ c x, u.oneCell' = true) (hgd : o.guard = none) (s x : Operand) (t : TypeId)
  (ho : o.op = .call { callee := .builtin .append, args := #[s, x], argTypes := #[t, t] })
  (e : TypeId) (i : TypeInfo) (z : Value) (bytes : Nat) (ht : P.underlying t = some (.slice e)) (hi : P.info? e = some i) (hz : i.zero = some z)
  (hsize : i.size = size) (hby : i.bytes = bytes) (hzs : z.cells.size = size) (hsz : 0 < size)
  (lo hi' : Nat) (v : Value) (l : List α) (hs : a.eval s = v) (hown : OwnIn c size e lo hi' w v l)
  (g : Nat) (cap : Nat) (y : α) (hx : a.eval x = .slice (some ⟨g, 0, none⟩) 1 cap) (hin : RsIn c size w (some ⟨g, 0, none⟩) [y])
  (h63 : l.length + 1 ≤ maxLen) (hbytes : (l.length + 1) * bytes ≤ 140737488355328) (hbase : lo ≤ w.heap.size)
  (h : ∀ v' w', OwnIn c size e lo w'.heap.size w' v' (l ++ [y]) → Out lo hi' w w' → K (a.put o.dst v') w') :
  if Region.wanted o (yielded ops a.tmps) = true then Oper.wp P o a w K Q else E := by
 have hw : Region.wanted o (yielded ops a.tmps) = true := by simp [Region.wanted, hgd]
 rw [if_pos hw]
 obtain ⟨hown, hlt⟩ := hown
 obtain ⟨b, o2, h', _, hcs⟩ := hin.at (by simp)
 obtain ⟨rfl, rfl⟩ : g = b ∧ 0 = o2 := by simpa using h'
 refine wp_append_own w s x t ho lo e i z size bytes ht hi hz hsize hby hzs hsz v l.length (l.flatMap c) hs hown ⟨g, 0, none⟩ 1 cap ([y].flatMap c) hx (flat_len c size hc [y]) (RsIn.news hc hcs) ?_ h63 hbytes hbase fun v' w' h1 h2 _ => ?_
 ·intro u hu
  rw [List.mem_flatMap] at hu
  obtain ⟨x', _, hx'⟩ := hu
  exact hone x' u hx'
 ·exact h v' w' ⟨by simpa using h1, fun k hk => (World.ownsRow.lt h1 k hk).2⟩ (Out.of_grown h2 fun k hk => ⟨(World.ownsRow.lt hown k hk).1, hlt k hk⟩)
end
theorem lit_rs (w : World) (s : ByteArray) (T : TypeId) : RsIn strL 1 (w.alloc (.cells #[.string s] T)) (some ⟨w.heap.size, 0, none⟩) [s] :=
 .inr ⟨w.heap.size, 0, rfl, by simp, fun i x hx j v hv => by
  rcases i with _ | i
  ·simp at hx
   subst hx
   rw [cell_of_row _ _ _ _ _ (0, 0) (heap_alloc_new w _)]
   have hj : j = 0 := by
    have := (List.getElem?_eq_some_iff.1 hv).1
    simp [strL] at this
    omega
   subst hj
   simpa [strL] using hv
  ·simp at hx⟩
theorem byte_cells2 {w : World} {A B : Int} {T : TypeId} (a0 : 0 ≤ A) (a1 : A ≤ 255) (b0 : 0 ≤ B) (b1 : B ≤ 255) :
  ∀ j u, (bcells [byN A, byN B])[j]? = some u → (w.alloc (.cells #[.int .u8 A, .int .u8 B] T)).cell? ((⟨w.heap.size, 0, none⟩ : Addr).add j) = some u := by
 intro j u hj
 have e : (⟨w.heap.size, 0, none⟩ : Addr).add j = ⟨w.heap.size, j, none⟩ := by unfold Addr.add; split <;> simp_all
 rw [e, cell_of_row _ _ _ _ _ (0, 0) (heap_alloc_new w _)]
 rcases j with _ | _ | j
 ·simp [bcells, byN_to a0 a1] at hj
  subst hj
  rfl
 ·simp [bcells, byN_to b0 b1] at hj
  subst hj
  rfl
 ·simp [bcells] at hj
theorem byte_cells1 {w : World} {A : Int} {T : TypeId} (a0 : 0 ≤ A) (a1 : A ≤ 255) :
  ∀ j u, (bcells [byN A])[j]? = some u → (w.alloc (.cells #[.int .u8 A] T)).cell? ((⟨w.heap.size, 0, none⟩ : Addr).add j) = some u := by
 intro j u hj
 have e : (⟨w.heap.size, 0, none⟩ : Addr).add j = ⟨w.heap.size, j, none⟩ := by unfold Addr.add; split <;> simp_all
 rw [e, cell_of_row _ _ _ _ _ (0, 0) (heap_alloc_new w _)]
 rcases j with _ | j
 ·simp [bcells, byN_to a0 a1] at hj
  subst hj
  rfl
 ·simp [bcells] at hj
def StrsOut (w : World) (l : List ByteArray) (e : Ending) (w' : World) : Prop :=
 ∃ a cap, e = .returned (.slice a l.length cap) ∧ RsNew strL 1 9 w.heap.size w'.heap.size w' a l ∧ Below w.heap.size w w'
theorem filled2_any (w : World) (A B : Int) (T : TypeId) (a0 : 0 ≤ A) (a1 : A ≤ 255) (b0 : 0 ≤ B) (b1 : B ≤ 255) (s : ByteArray) :
  Calls Tryz.prog 209 #[.slice (some ⟨w.heap.size, 0, none⟩) 2 2, .string s] (w.alloc (.cells #[.int .u8 A, .int .u8 B] T)) fun e w' => e = .returned (.string ⟨(fill8 ([byN A, byN B] ++ s.data.toList)).toArray⟩) ∧ Below w.heap.size w w' :=
 (filled_any w.heap.size [byN A, byN B] s (w.alloc (.cells #[.int .u8 A, .int .u8 B] T)) (by show 1 ≤ 2; decide) (by show 2 ≤ 2; decide) (byte_cells2 a0 a1 b0 b1) (by simp)).mono fun _ _ ⟨h1, h2⟩ => ⟨h1, ((Below.refl _ _).alloc (Nat.le_refl _) _).trans (h2.mono (by simp))⟩
theorem filled1_any (w : World) (A : Int) (T : TypeId) (a0 : 0 ≤ A) (a1 : A ≤ 255) (s : ByteArray) :
  Calls Tryz.prog 209 #[.slice (some ⟨w.heap.size, 0, none⟩) 1 1, .string s] (w.alloc (.cells #[.int .u8 A] T)) fun e w' => e = .returned (.string ⟨(fill8 ([byN A] ++ s.data.toList)).toArray⟩) ∧ Below w.heap.size w w' :=
 (filled_any w.heap.size [byN A] s (w.alloc (.cells #[.int .u8 A] T)) (by show 1 ≤ 1; decide) (by show 1 ≤ 2; decide) (byte_cells1 a0 a1) (by simp)).mono fun _ _ ⟨h1, h2⟩ => ⟨h1, ((Below.refl _ _).alloc (Nat.le_refl _) _).trans (h2.mono (by simp))⟩
set_option maxRecDepth 100000 in
set_option maxHeartbeats 4000000 in
theorem implCut_any (sq : Int) (d : ByteArray) (w : World) (hd : d.size ≤ maxLen) :
  Calls Tryz.prog 164 #[.int .i64 sq, .string d] w (StrsOut w (cutL sq d)) := by
 unfold StrsOut cutL maxLen at *
 rcases c0 : inB 0 7 sq
 ·rw [if_neg (by simp [cutB, c0])]
  go_enter Tryz.func164, Tryz.ntmps164
  go_wp2_with (go_at_call 131; refine (from0_any _ _ _).mono ?_; rw [c0]; rintro e w' ⟨rfl, rfl⟩)
  go_ret
  exact ⟨none, 0, rfl, RsNew.nil _, Below.refl _ _⟩
 by_cases h1 : (d.size : Int) < 1
 ·have d1 : decide ((d.size : Int) < 1) = true := decide_eq_true h1
  rw [if_neg (by simp [cutB]; omega)]
  go_enter Tryz.func164, Tryz.ntmps164
  go_wp2_with (go_at_call 131; refine (from0_any _ _ _).mono ?_; rw [c0]; rintro e w' ⟨rfl, rfl⟩)
  go_ret
  exact ⟨none, 0, rfl, RsNew.nil _, Below.refl _ _⟩
 have d1 : decide ((d.size : Int) < 1) = false := decide_eq_false h1
 by_cases h2 : (223 : Int) < (d.size : Int)
 ·have d2 : decide ((223 : Int) < (d.size : Int)) = true := decide_eq_true h2
  rw [if_neg (by simp [cutB]; omega)]
  go_enter Tryz.func164, Tryz.ntmps164
  go_wp2_with (go_at_call 131; refine (from0_any _ _ _).mono ?_; rw [c0]; rintro e w' ⟨rfl, rfl⟩)
  go_ret
  exact ⟨none, 0, rfl, RsNew.nil _, Below.refl _ _⟩
 have d2 : decide ((223 : Int) < (d.size : Int)) = false := decide_eq_false h2
 rw [if_pos (by simp [cutB, c0]; omega)]
 obtain ⟨i0, hi, hz0, hz1, hz2⟩ := info_parts Cut.info
 have HI := Lib.hid hi
 have hs := inB_of c0
 have hm : IntKind.i64.wrap (32 * sq) = 32 * sq := IntWalk.i64_in _ (by omega)
 have hu : IntKind.u8.wrap (32 * sq) = 32 * sq := IntWalk.u8_in _ (by omega)
 have hl : IntKind.u8.wrap (d.size : Int) = (d.size : Int) := IntWalk.u8_in _ (by omega)
 clear hi
 have HP0 := Lib.hid (show [piece sq d 0] = pieces sq d (1 + 0) from rfl)
 have hP : ∀ x, x = piece sq d 0 → [x] = pieces sq d (1 + 0) := fun x h => by rw [h]; rfl
 have HPx := Lib.hid hP
 clear hP HP0
 go_enter Tryz.func164, Tryz.ntmps164
 go_wp2_with (go_at_call 131; refine (from0_any _ _ _).mono ?_; rw [c0]; rintro e w' ⟨rfl, rfl⟩)
 refine (filled2_any w (32 * sq) d.size 5 (by omega) (by omega) (by omega) (by omega) d).mono ?_
 rintro e w1 ⟨rfl, hb1⟩
 go_wp2_with (refine wpList_lit1o strL_len rfl 87 (.tmp 30) rfl 9 i0 Tryz.underlying87 HI.out _ hz0 hz1 _ _ rfl rfl rfl (by decide) (by decide) ?_; intro w2 G e2 hown b2; subst e2; have HO0 := Lib.hid hown; have HB0 := Lib.hid (hb1.trans (b2.mono hb1.size)); clear hown b2)
 have HO1 := Lib.hid (show OwnIn strL 1 9 w.heap.size w2.heap.size w2 _ (pieces sq d (1 + 0)) from ((HPx.out _ rfl) ▸ HO0.out).widenLo hb1.size)
 clear HO0 HPx
 go_loopw [6, 7] (fun v at_ wr => ∃ (k : Nat) (V : Value), at_ = .int .i64 ((6 + 7 * k : Nat) : Int) ∧ V = v ∧ k ≤ d.size / 7 ∧ OwnIn strL 1 9 w.heap.size wr.heap.size wr V (pieces sq d (1 + k)) ∧ Below w.heap.size w wr) (fun _ at_ _ => d.size - (intOf at_).toNat)
 case atStart => exact ⟨0, _, rfl, rfl, by omega, HO1.out, HB0.out⟩
 case round =>
  obtain ⟨k, V, rfl, rfl, hk, hown, hb⟩ := hrel
  obtain ⟨a, cap, rfl, _, _⟩ := hown.new strL_len
  have HO := Lib.hid hown
  clear hown HO1 HB0 hb1
  rw [pieces_length]
  by_cases hlt : 6 + 7 * k < d.size
  ·have hd : decide (((6 + 7 * k : Nat) : Int) < (d.size : Int)) = true := decide_eq_true (by omega)
   have hc1 : IntKind.u8.wrap ((1 + k : Nat) : Int) = ((1 + k : Nat) : Int) := IntWalk.u8_in _ (by omega)
   have hc2 : IntKind.u8.wrap (32 * sq + ((1 + k : Nat) : Int)) = 32 * sq + ((1 + k : Nat) : Int) := IntWalk.u8_in _ (by omega)
   have hc3 : IntKind.i64.wrap (((6 + 7 * k : Nat) : Int) + 7) = ((6 + 7 * k + 7 : Nat) : Int) := by rw [IntWalk.i64_in _ (by omega)]; omega
   have HPn := Lib.hid (show pieces sq d (1 + (k + 1)) = pieces sq d (1 + k) ++ [(⟨(fill8 ([byN (32 * sq + ((1 + k : Nat) : Int))] ++ (d.extract (6 + 7 * k) d.size).data.toList)).toArray⟩ : ByteArray)] by
    rw [show 1 + (k + 1) = (1 + k) + 1 by omega, pieces_succ, Nat.add_comm 1 k]
    congr 2
    unfold piece
    rw [toList_extract, List.take_of_length_le (by simp)])
   have HLM := Lib.hid (pieces_length sq d (1 + k))
   generalize pieces sq d (1 + k) = L at *
   obtain ⟨M, hM⟩ : ∃ M, 1 + k = M := ⟨_, rfl⟩
   obtain ⟨X, hX⟩ : ∃ X, 6 + 7 * k = X := ⟨_, rfl⟩
   have HM := Lib.hid hM
   have HX := Lib.hid hX
   have hM32 : M ≤ 32 := by omega
   have hX3 : X + 7 = 6 + 7 * (k + 1) := by omega
   have hF : 32 * sq + (M : Int) ≤ 255 := by omega
   rw [hM] at hc1 hc2 HPn HLM ⊢
   rw [hX] at hlt hd hc3 HPn ⊢
   clear hM hX
   have HFc := Lib.hid (filled1_any wr (32 * sq + (M : Int)) 5 (by omega) hF (d.extract X d.size))
   generalize (⟨(fill8 ([byN (32 * sq + (M : Int))] ++ (d.extract X d.size).data.toList)).toArray⟩ : ByteArray) = Y at HPn HFc
   go_wp2_with fail
   refine HFc.out.mono ?_
   rintro e w3 ⟨rfl, h3⟩
   have HO3 := Lib.hid (HO.out.kept h3)
   have HB3 := Lib.hid (hb.trans (h3.mono hb.size))
   have hs3 := h3.size
   clear h3 HFc
   go_wp2_with (first
    | (refine wpList_lit1 strL_len rfl 87 (.tmp 48) rfl 9 i0 Tryz.underlying87 HI.out _ hz0 hz1 Y _ rfl rfl rfl (by decide) (by decide) ?_; intro w4 R e4 hin4 b4; have HR4 := Lib.hid hin4; have HO4 := Lib.hid (HO3.out.kept b4); have HB4 := Lib.hid (HB3.out.trans (b4.mono HB3.out.size)); have hs4 := b4.size; clear e4 hin4 b4)
    | (at_builtin; refine wpList_append_rs strL_len strL_one rfl (.tmp 38) (.tmp 49) 87 rfl 9 i0 _ 16 Tryz.underlying87 HI.out hz0 hz1 hz2 rfl (by decide) w.heap.size wr.heap.size _ L (by rw [HLM.out]; rfl) HO4.out _ 1 [Y] rfl HR4.out (by rw [HLM.out]; unfold maxLen; show _ + 1 ≤ _; omega) (by rw [HLM.out]; show (_ + 1) * 16 ≤ _; omega) HB4.out.size ?_; intro v5 w5 hown5 ho5; have HO5 := Lib.hid hown5; have HU5 := Lib.hid ho5; clear hown5 ho5))
   go_roundw
   case rel =>
    exact ⟨k + 1, _, by simp, rfl, by omega, by rw [HPn.out]; exact HO5.out, HU5.out.below HB4.out (Nat.le_refl _) HB4.out.size⟩
   case measure =>
    have h1 := HX.out
    simp [intOf]
    omega
  ·have hd : decide (((6 + 7 * k : Nat) : Int) < (d.size : Int)) = false := decide_eq_false (by omega)
   have hk7 : k = d.size / 7 := by omega
   go_wp2_with fail
   go_ret
   obtain ⟨a', cap', h', _, hn⟩ := HO.out.new strL_len
   rw [pieces_length] at h'
   rw [← hk7, pieces_length]
   exact ⟨a', cap', by rw [← h']; rfl, hn, hb⟩
theorem piece_first (sq : Int) (d : ByteArray) (at_ : Nat) (h : at_ = 6 ∨ (at_ = d.size ∧ d.size ≤ 6)) : piece sq d 0 = ⟨(fill8 ([byN (32 * sq), byN d.size] ++ d.data.toList.take at_)).toArray⟩ := by
 have hl : d.data.toList.length = d.size := by simp
 rcases h with rfl | ⟨rfl, _⟩
 ·rw [fill8_take _ _ 6 (by simp)]
  rfl
 ·rw [List.take_of_length_le (by omega)]
  rfl
theorem piece_next (sq : Int) (d : ByteArray) (k tt : Nat) (h : tt = 6 + 7 * (k + 1) ∨ (tt = d.size ∧ d.size ≤ 6 + 7 * (k + 1))) : piece sq d (k + 1) = ⟨(fill8 ([byN (32 * sq + ((k + 1 : Nat) : Int))] ++ (d.extract (6 + 7 * k) tt).data.toList)).toArray⟩ := by
 rw [toList_extract]
 have hl : (d.data.toList.drop (6 + 7 * k)).length = d.size - (6 + 7 * k) := by simp
 rcases h with rfl | ⟨rfl, h⟩
 ·rw [show 6 + 7 * (k + 1) - (6 + 7 * k) = 7 by omega, fill8_take _ _ 7 (by simp)]
  rfl
 ·rw [List.take_of_length_le (by omega)]
  rfl
theorem fill_first (sq : Int) (d : ByteArray) (at_ : Nat) (h : at_ = 6 ∨ (at_ = d.size ∧ d.size ≤ 6)) (W : World) :
  Calls Tryz.prog 87 #[.string (⟨[byN (32 * sq), byN d.size].toArray⟩ ++ d.extract 0 at_), .int .i64 8] W fun e w' => e = .returned (.string (piece sq d 0)) ∧ Below W.heap.size W w' := by
 have e : ((⟨[byN (32 * sq), byN d.size].toArray⟩ : ByteArray) ++ d.extract 0 at_).data.toList = [byN (32 * sq), byN d.size] ++ d.data.toList.take at_ := by
  rw [ByteArray.data_append, Array.toList_append, toList_extract]
  rfl
 refine (l06Fill_any _ W ?_).mono fun e' w' ⟨h1, h2⟩ => ⟨by rw [h1, e, piece_first sq d at_ h], h2⟩
 have hz : ∀ T : ByteArray, T.size = T.data.toList.length := fun T => by simp
 rw [hz, e, List.length_append, List.length_take]
 have hl : d.data.toList.length = d.size := by simp
 show 2 + _ ≤ 8
 omega
theorem fill_next (sq : Int) (d : ByteArray) (k tt : Nat) (h : tt = 6 + 7 * (k + 1) ∨ (tt = d.size ∧ d.size ≤ 6 + 7 * (k + 1))) (W : World) :
  Calls Tryz.prog 87 #[.string (⟨[byN (32 * sq + ((k + 1 : Nat) : Int))].toArray⟩ ++ d.extract (6 + 7 * k) tt), .int .i64 8] W fun e w' => e = .returned (.string (piece sq d (k + 1))) ∧ Below W.heap.size W w' := by
 have e : ((⟨[byN (32 * sq + ((k + 1 : Nat) : Int))].toArray⟩ : ByteArray) ++ d.extract (6 + 7 * k) tt).data.toList = [byN (32 * sq + ((k + 1 : Nat) : Int))] ++ (d.extract (6 + 7 * k) tt).data.toList := by
  rw [ByteArray.data_append, Array.toList_append]
 refine (l06Fill_any _ W ?_).mono fun e' w' ⟨h1, h2⟩ => ⟨by rw [h1, e, piece_next sq d k tt h], h2⟩
 have hz : ∀ T : ByteArray, T.size = T.data.toList.length := fun T => by simp
 rw [hz, e, List.length_append, toList_extract, List.length_take, List.length_drop]
 have hl : d.data.toList.length = d.size := by simp
 show 1 + _ ≤ 8
 omega
theorem conv2 {w : World} {A B : Int} (a0 : 0 ≤ A) (a1 : A ≤ 255) (b0 : 0 ≤ B) (b1 : B ≤ 255) :
  (convert 153 9 (.slice (some ⟨w.heap.size, 0, none⟩) 2 2)).run Tryz.prog (w.alloc (.cells #[.int .u8 A, .int .u8 B] 5)).drew = .ok (.string ⟨[byN A, byN B].toArray⟩) (w.alloc (.cells #[.int .u8 A, .int .u8 B] 5)).drew :=
 conv_row (P := Tryz.prog) (w := (w.alloc (.cells #[.int .u8 A, .int .u8 B] 5)).drew) (heap_alloc_new w _) (l := [byN A, byN B]) 2 rfl (by simp [bcells, byN_to a0 a1, byN_to b0 b1]) 153 9 Tryz.underlying153 Tryz.underlying5 Tryz.underlying9 2
theorem conv1 {w : World} {A : Int} (a0 : 0 ≤ A) (a1 : A ≤ 255) :
  (convert 153 9 (.slice (some ⟨w.heap.size, 0, none⟩) 1 1)).run Tryz.prog (w.alloc (.cells #[.int .u8 A] 5)).drew = .ok (.string ⟨[byN A].toArray⟩) (w.alloc (.cells #[.int .u8 A] 5)).drew :=
 conv_row (P := Tryz.prog) (w := (w.alloc (.cells #[.int .u8 A] 5)).drew) (heap_alloc_new w _) (l := [byN A]) 1 rfl (by simp [bcells, byN_to a0 a1]) 153 9 Tryz.underlying153 Tryz.underlying5 Tryz.underlying9 1
set_option maxRecDepth 100000 in
set_option maxHeartbeats 4000000 in
theorem l06Cut_any (sq : Int) (d : ByteArray) (w : World) (hc : cutB sq d = true) :
  Calls Tryz.prog 36 #[.int .i64 sq, .string d] w (StrsOut w (pieces sq d (1 + d.size / 7))) := by
 unfold StrsOut
 unfold cutB at hc
 simp only [Bool.and_eq_true, decide_eq_true_eq] at hc
 obtain ⟨c0, h1, h2⟩ := hc
 obtain ⟨i0, hi, hz0, hz1, hz2⟩ := info_parts Cut.info
 have HI := Lib.hid hi
 have hs := inB_of c0
 have hm : IntKind.i64.wrap (32 * sq) = 32 * sq := IntWalk.i64_in _ (by omega)
 have hu : IntKind.u8.wrap (32 * sq) = 32 * sq := IntWalk.u8_in _ (by omega)
 have hl : IntKind.u8.wrap (d.size : Int) = (d.size : Int) := IntWalk.u8_in _ (by omega)
 clear hi c0
 obtain ⟨at0, hat0⟩ : ∃ at0 : Nat, (if (6 : Int) < (d.size : Int) then (6 : Int) else (d.size : Int)) = (at0 : Int) := by
  split
  ·exact ⟨6, rfl⟩
  ·exact ⟨d.size, rfl⟩
 have hat1 : at0 = 6 ∨ (at0 = d.size ∧ d.size ≤ 6) := by
  split at hat0 <;> omega
 have HP0 := Lib.hid (piece_first sq d at0 hat1)
 have HCv := fun W : World => Lib.hid (conv2 (w := W) (A := 32 * sq) (B := d.size) (by omega) (by omega) (by omega) (by omega))
 have ha0 : at0 ≤ d.size := by omega
 have HF0 := Lib.hid (fill_first sq d at0 hat1)
 go_enter Tryz.func36, Tryz.ntmps36
 go_wp2_with fail
 refine (l01Min_any _ _ _).mono ?_
 rw [hat0]
 rintro e w' ⟨rfl, rfl⟩
 go_wp2_with fail
 have hcv := (HCv w).out
 go_region_with (go_at_call 87; refine (HF0.out _).mono ?_; rintro e w3 ⟨rfl, h3⟩)
 all_goals have HB3 := Lib.hid (((Below.refl w.heap.size w).alloc (Nat.le_refl _) (.cells #[.int .u8 (32 * sq), .int .u8 d.size] 5)).drew.trans (h3.mono (by simp)))
 all_goals have HO0 := Lib.hid (OwnIn.lit strL_len w3 9 (piece sq d 0))
 all_goals clear h3
 have HAT := Lib.hid hat1
 clear hcv HCv HF0 HP0 hat0 hat1
 go_wp2_with fail
 have HO1 := Lib.hid (show OwnIn strL 1 9 w.heap.size (w3.alloc (.cells #[.string (piece sq d 0)] 9)).heap.size (w3.alloc (.cells #[.string (piece sq d 0)] 9)) (.slice (some ⟨w3.heap.size, 0, none⟩) 1 1) (pieces sq d (1 + 0)) from (HO0.out).widenLo HB3.out.size)
 have HB1 := Lib.hid (HB3.out.alloc HB3.out.size (.cells #[.string (piece sq d 0)] 9))
 clear HO0 HB3
 go_loopw [5, 6, 7, 8] (fun at_ v ix _ wr => ∃ (k A : Nat) (V : Value), at_ = .int .i64 (A : Int) ∧ ix = .int .i64 ((k + 1 : Nat) : Int) ∧ V = v ∧ k ≤ d.size / 7 ∧ (A = 6 + 7 * k ∨ (A = d.size ∧ d.size ≤ 6 + 7 * k)) ∧ OwnIn strL 1 9 w.heap.size wr.heap.size wr V (pieces sq d (1 + k)) ∧ Below w.heap.size w wr) (fun _ _ ix _ _ => 100 - (intOf ix).toNat)
 case atStart => exact ⟨0, at0, _, rfl, rfl, rfl, by omega, by have := HAT.out; omega, HO1.out, HB1.out⟩
 case round =>
  obtain ⟨k, A, V, rfl, rfl, rfl, hk, hA, hown, hb⟩ := hrel
  obtain ⟨a, cap, rfl, _, _⟩ := hown.new strL_len
  have HO := Lib.hid hown
  clear hown HO1 HB1
  rw [pieces_length]
  by_cases hlt : A < d.size
  ·have hA2 : A = 6 + 7 * k := by omega
   clear hA
   have hd : decide ((A : Int) < (d.size : Int)) = true := decide_eq_true (by omega)
   have hc1 : IntKind.i64.wrap ((A : Int) + 7) = ((A + 7 : Nat) : Int) := by rw [IntWalk.i64_in _ (by omega)]; omega
   have hc2 : IntKind.i64.wrap (32 * sq + ((k + 1 : Nat) : Int)) = 32 * sq + ((k + 1 : Nat) : Int) := IntWalk.i64_in _ (by omega)
   have hc3 : IntKind.u8.wrap (32 * sq + ((k + 1 : Nat) : Int)) = 32 * sq + ((k + 1 : Nat) : Int) := IntWalk.u8_in _ (by omega)
   have hc4 : IntKind.i64.wrap (((k + 1 : Nat) : Int) + 1) = ((k + 1 + 1 : Nat) : Int) := by rw [IntWalk.i64_in _ (by omega)]; omega
   obtain ⟨tt, htt⟩ : ∃ tt : Nat, (if ((A + 7 : Nat) : Int) < (d.size : Int) then ((A + 7 : Nat) : Int) else (d.size : Int)) = (tt : Int) := by
    split
    ·exact ⟨A + 7, rfl⟩
    ·exact ⟨d.size, rfl⟩
   have ht1 : tt = 6 + 7 * (k + 1) ∨ (tt = d.size ∧ d.size ≤ 6 + 7 * (k + 1)) := by
    split at htt <;> omega
   have HT := Lib.hid ht1
   have htd : tt ≤ d.size := by split at htt <;> omega
   have hAt : A ≤ tt := by omega
   have HF1 := Lib.hid (fill_next sq d k tt ht1)
   rw [← hA2] at HF1
   have HPn := Lib.hid (show pieces sq d (1 + (k + 1)) = pieces sq d (1 + k) ++ [piece sq d (k + 1)] from by rw [show 1 + (k + 1) = (1 + k) + 1 by omega, pieces_succ, Nat.add_comm 1 k])
   have HLM := Lib.hid (pieces_length sq d (1 + k))
   have HK := Lib.hid (show k + 1 ≤ d.size / 7 by omega)
   have hF0 : 0 ≤ 32 * sq + ((k + 1 : Nat) : Int) := by omega
   have hF : 32 * sq + ((k + 1 : Nat) : Int) ≤ 255 := by omega
   have HCv := Lib.hid (fun W : World => conv1 (w := W) hF0 hF)
   generalize pieces sq d (1 + k) = L at *
   generalize piece sq d (k + 1) = Y at *
   have HKk := Lib.hid hk
   obtain ⟨M, hM⟩ : ∃ M, 1 + k = M := ⟨_, rfl⟩
   have hM32 : M ≤ 32 := by omega
   rw [hM] at HLM ⊢
   have HA2 := Lib.hid hA2
   obtain ⟨K1, hK1⟩ : ∃ K1, k + 1 = K1 := ⟨_, rfl⟩
   have HK1 := Lib.hid hK1
   rw [hK1] at hc2 hc3 hc4 hF0 hF HCv HF1 HK ⊢
   have hK32 : K1 ≤ 32 := by omega
   obtain ⟨A7, hA7⟩ : ∃ A7, A + 7 = A7 := ⟨_, rfl⟩
   rw [hA7] at hc1 htt
   clear ht1 hM hk hA2 hK1 hA7
   go_wp2_with fail
   refine (l01Min_any _ _ _).mono ?_
   rw [htt]
   rintro e w' ⟨rfl, rfl⟩
   clear htt
   go_wp2_with fail
   have hcv := HCv.out wr
   have hbig : ¬ 9223372036854775807 < 1 + (tt - A) := by omega
   go_region_law (first
    | (refine step_append_rs strL_len strL_one (by rfl) _ _ 87 (by rfl) 9 i0 _ 16 Tryz.underlying87 HI.out hz0 hz1 hz2 (by rfl) (by decide) w.heap.size wr.heap.size (.slice a M cap) L (by rfl) (by have h := HO4.out.kept ((Below.refl w4.heap.size w4).alloc (Nat.le_refl _) (.cells #[.string Y] 9)); rw [HLM.out] at h; exact h) w4.heap.size 1 Y (by rfl) (lit_rs w4 Y _) (by rw [HLM.out]; unfold maxLen; omega) (by rw [HLM.out]; omega) (by have h := HB4.out.size; simp; omega) ?_; intro v5 w5 hown5 ho5; have HO5 := Lib.hid hown5; have HB5 := Lib.hid (ho5.below (HB4.out.alloc HB4.out.size _) (Nat.le_refl _) (by have h := HB4.out.size; simp; omega)); clear hown5 ho5)
    | (go_simp; go_at_call 87; refine (HF1.out _).mono ?_; rintro e w4 ⟨rfl, h4⟩; have HO4 := Lib.hid ((HO.out.kept (((Below.refl wr.heap.size wr).alloc (Nat.le_refl _) _).drew)).kept h4); have HB4 := Lib.hid (((hb.alloc hb.size _).drew).trans (h4.mono (by have := hb.size; simp; omega))); clear h4))
   go_wp2_with fail
   go_roundw
   case rel => exact ⟨k + 1, tt, _, rfl, by rw [HK1.out]; simp, rfl, by rw [HK1.out]; exact HK.out, HT.out, by rw [HPn.out]; exact HO5.out, HB5.out⟩
   case measure =>
    have h9 := HK1.out
    simp [intOf]
    omega
  ·have hd : decide ((A : Int) < (d.size : Int)) = false := decide_eq_false (by omega)
   have hk7 : k = d.size / 7 := by omega
   go_wp2_with fail
   go_ret
   obtain ⟨a', cap', h', _, hn⟩ := HO.out.new strL_len
   rw [pieces_length] at h'
   rw [← hk7, pieces_length]
   exact ⟨a', cap', by rw [← h']; rfl, hn, hb⟩
end Go.Proofs.YtioldepgoodipaaGreat
namespace Go.Proofs.YtioldepgoodipaaGreat
open Go.RowKit
set_option linter.unusedVariables false

def sndT (p : Int) (l : List Vl) : ByteArray := ⟨(encL p l).toArray⟩
def sndF (s : Int) (T : ByteArray) : List ByteArray := if T.size ≤ 8 then [T] else pieces s T (1 + T.size / 7)
def sndS (s : Int) (T : ByteArray) : Int := if T.size ≤ 8 then s else (s + 1) % 8
def sndC (r p ad : Int) (F : List ByteArray) : List (Int × ByteArray) := F.map fun t => (idN r p 255 ad, t)
theorem sndC_len (r p ad : Int) (F : List ByteArray) : (sndC r p ad F).length = F.length := by simp [sndC]
def sndN (x : Nd) (C : List (Int × ByteArray)) (s : Int) : Nd := ⟨x.c, x.q ++ C, x.t, x.d, x.g, s⟩
def sndV (x : Nd) (p : Int) (l : List Vl) : List (Int × ByteArray) := sndC (defD p).r p x.c.ad (sndF x.s (sndT p l))
def sndO (x : Nd) (p : Int) (l : List Vl) : Nd × Int :=
 if 400 < l.length then (ndZ, 2) else if (ndB x && vrB p l) = false then (ndZ, 1) else if x.c.st ≠ 2 then (ndZ, 10) else
  if 16 < x.q.length + (sndV x p l).length then (ndZ, 9) else (sndN x (sndV x p l) (sndS x.s (sndT p l)), 0)
theorem vrB_ix {p : Int} {l : List Vl} (h : vrB p l = true) : ixD p < 6 := by
 unfold vrB vrF at h
 simp only [Bool.and_eq_true, decide_eq_true_eq] at h
 exact h.1
theorem defD_at {p : Int} (h : ixD p < 6) : (defD p).p = p ∧ 0 ≤ (defD p).r ∧ (defD p).r ≤ 7 ∧ wideB p = true ∧ p ≤ 131071 ∧ 1 ≤ (defD p).s ∧ (defD p).s ≤ 43 := by
 have e : ∀ i, i < 6 → ixD p = i → pAt i = p := fun i hi he => by
  unfold ixD at he
  repeat' split at he
  all_goals first | (subst he; subst_vars; rfl) | omega
 have hp := e _ h rfl
 unfold defD
 generalize ixD p = i at *
 subst hp
 rcases i with _ | _ | _ | _ | _ | _ | i
 all_goals first | decide | omega
theorem sndT_size {p : Int} {l : List Vl} (h : vrB p l = true) : ((sndT p l).size : Int) = (defD p).s := by
 obtain ⟨-, -, -, -, -, h1, h2⟩ := defD_at (vrB_ix h)
 unfold sndT encL encF
 rw [if_pos h, enc_size (by omega)]
 omega
theorem piece_len (s : Int) (T : ByteArray) (k : Nat) : (piece s T k).size = 8 := by
 unfold piece
 split
 all_goals
  show (List.toArray _).size = 8
  rw [List.size_toArray, fill8_length]
theorem sndF_le (s : Int) (T : ByteArray) : ∀ t ∈ sndF s T, t.size ≤ 8 := by
 intro t ht
 unfold sndF at ht
 split at ht
 ·rename_i h
  rw [List.mem_singleton] at ht
  subst ht
  exact h
 ·unfold pieces at ht
  obtain ⟨k, _, rfl⟩ := List.mem_map.1 ht
  exact Nat.le_of_eq (piece_len s T k)
theorem sndF_len {s : Int} {T : ByteArray} (h : T.size ≤ 223) : (sndF s T).length ≤ 32 := by
 unfold sndF
 split
 ·show 1 ≤ 32
  omega
 ·rw [pieces_length]
  omega
theorem snd_idB {r p ad : Int} (hr : 0 ≤ r ∧ r ≤ 7) (hw : wideB p = true) (hp : p ≤ 131071) (ha : 0 ≤ ad ∧ ad ≤ 255) : idB r p 255 ad = true := by
 have h0 : 0 ≤ p := by
  unfold wideB at hw
  simp only [Bool.and_eq_true, decide_eq_true_eq] at hw
  exact hw.1
 exact idB_to hr ha ⟨h0, hp⟩ (.inl ⟨hw, rfl⟩)
theorem snd_ofB {r p ad : Int} (hr : 0 ≤ r ∧ r ≤ 7) (hw : wideB p = true) (hp : p ≤ 131071) (ha : 0 ≤ ad ∧ ad ≤ 255) : ofB (idN r p 255 ad) = true ∧ 0 ≤ idN r p 255 ad ∧ idN r p 255 ad ≤ 536870911 := by
 have hi := snd_idB hr hw hp ha
 obtain ⟨-, -, ⟨h0, -⟩, -⟩ := idB_of hi
 have e : idN r p 255 ad = 67108864 * r + 256 * p + ad := by
  unfold idN
  rw [if_pos hi, if_pos hw]
 rw [e]
 refine ⟨?_, by omega, by omega⟩
 unfold ofB
 simp only [Bool.and_eq_true, decide_eq_true_eq]
 omega
theorem sndC_all {r p ad : Int} {F : List ByteArray} (hr : 0 ≤ r ∧ r ≤ 7) (hw : wideB p = true) (hp : p ≤ 131071) (ha : 0 ≤ ad ∧ ad ≤ 255) (hF : ∀ t ∈ F, t.size ≤ 8) : allB (sndC r p ad F) = true := by
 unfold allB sndC
 rw [List.all_eq_true]
 intro y hy
 obtain ⟨t, ht, rfl⟩ := List.mem_map.1 hy
 unfold canB
 rw [(snd_ofB hr hw hp ha).1, Bool.true_and]
 exact decide_eq_true (hF t ht)
theorem sndC_ok {r p ad : Int} {F : List ByteArray} (hr : 0 ≤ r ∧ r ≤ 7) (hw : wideB p = true) (hp : p ≤ 131071) (ha : 0 ≤ ad ∧ ad ≤ 255) (hF : ∀ t ∈ F, t.size ≤ 8) : CansOk (sndC r p ad F) := by
 intro y hy
 unfold sndC at hy
 obtain ⟨t, ht, rfl⟩ := List.mem_map.1 hy
 obtain ⟨-, h1, h2⟩ := snd_ofB hr hw hp ha
 have := hF t ht
 exact ⟨⟨by dsimp only; omega, by dsimp only; omega⟩, by dsimp only; unfold maxLen; omega⟩
theorem snd_put {q C : List (Int × ByteArray)} (hq : qRightB q = true) (hC : allB C = true) (hl : C.length ≤ 32) : putCode q C = if 16 < q.length + C.length then 9 else 0 := by
 split
 ·rename_i h
  exact putCode_full (by omega) hq hC h
 ·rename_i h
  exact putCode_ok (by omega) hq hC h
structure SndAt (x : Nd) (p : Int) (l : List Vl) : Prop where
 pg : (defD p).p = p
 idb : idB (defD p).r p 255 x.c.ad = true
 ok : CansOk (sndV x p l)
 all : allB (sndV x p l) = true
 len : (sndV x p l).length ≤ 32
 t0 : 1 ≤ (sndT p l).size
 t1 : (sndT p l).size ≤ 43
 ts : ((sndT p l).size : Int) = (defD p).s
 sq : 0 ≤ x.s ∧ x.s ≤ 7
 put : putCode x.q (sndV x p l) = if 16 < x.q.length + (sndV x p l).length then 9 else 0
 q16 : x.q.length ≤ 16
theorem snd_at {x : Nd} {p : Int} {l : List Vl} (hb : ndB x = true) (hv : vrB p l = true) (hs : x.c.st = 2) : SndAt x p l := by
 obtain ⟨h1, h2, h3, h4, h5, h6, h7⟩ := ndB_of hb
 have hix := vrB_ix hv
 obtain ⟨d1, d2, d3, d4, d5, d6, d7⟩ := defD_at hix
 have ht := sndT_size hv
 have ha : 0 ≤ x.c.ad ∧ x.c.ad ≤ 255 := by
  rcases stateB_of (clB_of h1).2.2.2 with q | q | q <;> omega
 have hF := sndF_le x.s (sndT p l)
 have hl : (sndV x p l).length ≤ 32 := by
  unfold sndV
  rw [sndC_len]
  exact sndF_len (by omega)
 have hall : allB (sndV x p l) = true := sndC_all ⟨d2, d3⟩ d4 d5 ha hF
 exact ⟨d1, snd_idB ⟨d2, d3⟩ d4 d5 ha, sndC_ok ⟨d2, d3⟩ d4 d5 ha hF, hall, hl, by omega, by omega, ht, inB_of h6, snd_put h2 hall hl, (qRightB_of h2).1⟩
theorem fit_send {x : Nd} {C : List (Int × ByteArray)} {s : Int} (hb : ndB x = true) (hC : allB C = true) (hl : C.length ≤ 32) : NdFit (sndN x C s) := by
 have f := fit_of hb
 have hq := (qRightB_of (ndB_of hb).2.1).1
 refine ⟨⟨f.small.1, ?_, f.small.2.2.1, f.small.2.2.2.1, f.small.2.2.2.2⟩, ?_, f.ses, f.gots⟩
 ·show (x.q ++ C).length ≤ 1048576
  rw [List.length_append]
  omega
 ·intro y hy
  rcases List.mem_append.1 hy with h | h
  ·exact f.cans y h
  ·exact CansSmall.of_all hC y h
theorem sndO_fit (x : Nd) (p : Int) (l : List Vl) : NdSmall (sndO x p l).1 := by
 have hz : NdSmall ndZ := ⟨Nat.zero_le _, Nat.zero_le _, ⟨Nat.zero_le _, fun i hi => absurd hi (Nat.not_lt_zero i)⟩, Nat.zero_le _, ⟨Nat.zero_le _, fun i hi => absurd hi (Nat.not_lt_zero i)⟩⟩
 unfold sndO
 split
 ·exact hz
 split
 ·exact hz
 split
 ·exact hz
 split
 ·exact hz
 ·rename_i h1 h2 h3 h4
  simp only [Bool.not_eq_false, Bool.and_eq_true] at h2
  have k := snd_at h2.1 h2.2 (by simpa using h3)
  exact (fit_send h2.1 k.all k.len).small
end Go.Proofs.YtioldepgoodipaaGreat
namespace Go.Proofs.YtioldepgoodipaaGreat
open Go.RowKit Go.Joins
set_option linter.unusedVariables false

set_option maxHeartbeats 1000000 in
theorem l03Ill_any (k : Int) (w : World) : Calls Tryz.prog 90 #[.int .i64 k] w fun e w' => e = .returned (.agg #[.slice none 0 0, .int .i64 0, .string ⟨#[]⟩, .int .i64 k]) ∧ Below w.heap.size w w' := by
 go_enter Tryz.func90, Tryz.ntmps90
 go_wp2
 exact bodyPost_ret (v := .agg #[.slice none 0 0, .int .i64 0, .string ⟨#[]⟩, .int .i64 k]) (by simp [results, Tryz.results90, go_sem]) rfl ⟨rfl, (Below.refl _ _).alloc (Nat.le_refl _) _⟩
set_option maxRecDepth 100000 in
set_option maxHeartbeats 2000000 in
theorem l03Copy_any (a : Option Addr) (c : Nat) (q : List (Int × ByteArray)) (w : World) (h : CansIn w a q) (hlen : q.length ≤ 1048576) :
  Calls Tryz.prog 91 #[.agg #[.slice a q.length c]] w fun e w' => ∃ a2 c2, e = .returned (.agg #[.slice a2 q.length c2]) ∧ w'.ownsRow (w.heap.size + 2) 66 2 (.slice a2 q.length c2) q.length (ccells q) ∧ w.heap.size + 2 ≤ w'.heap.size ∧ Below w.heap.size w w' := by
 obtain ⟨i0, hi, hz0, hz1, hz2⟩ := info_parts CansTo.info
 have HB := Lib.hid (fun o o' o2 : Obj => (((Below.refl w.heap.size w).alloc (Nat.le_refl _) o).alloc (by simp) o').alloc (by simp; omega) o2)
 have HC := Lib.hid h
 have HO : Hid (∀ o o' : Obj, (((w.alloc o).alloc o').alloc (.cells #[] 66)).ownsRow (w.heap.size + 2) 66 2 (.slice (some ⟨w.heap.size + 1 + 1, 0, none⟩) 0 0) 0 []) := Lib.hid (fun o o' => by
  have := World.ownsRow_lit (base := w.heap.size + 2) (size := 2) (e := 66) ((w.alloc o).alloc o') #[] 0 (by simp) (by unfold maxLen; omega) rfl
  simpa using this)
 have HI := Lib.hid hi
 clear h hi
 go_enter Tryz.func91, Tryz.ntmps91
 go_wp2_with (at_builtin; refine wpList_append_cans rfl (.tmp 3) (.tmp 5) 41 rfl (w.heap.size + 2) 66 i0 _ 24 Tryz.underlying41 HI.out hz0 hz1 hz2 rfl _ 0 _ rfl (HO.out _ _) a c q rfl (HC.out.kept (HB.out _ _ _)) (by unfold maxLen; omega) (by omega) (by simp) ?_; intro v3 w3 hown3 hgrow3; obtain ⟨a3, c3, rfl⟩ := owns_slice hown3; have hb3 := (Below.refl _ _).grown hgrow3 (B := w.heap.size + 2) (by simp) (fun j hj => Nat.le_of_eq (Option.some.inj (show some (w.heap.size + 1 + 1) = some j from hj))); have x0 : w3.cell? ⟨w.heap.size + 1, 0, none⟩ = some (.slice none 0 0) := (hb3.cell (p := ⟨w.heap.size + 1, 0, none⟩) (Nat.lt_succ_self _)).trans (by simp [go_sem]); have y0 : w3.frozen? ⟨w.heap.size + 1, 0, none⟩ = false := (hb3.frozen (p := ⟨w.heap.size + 1, 0, none⟩) (Nat.lt_succ_self _)).trans (by simp [go_sem]); have b3 := (HB.out _ _ _).trans (hb3.mono (by omega)); have HO3 := Lib.hid hown3; have hsz := hgrow3.size; simp at hsz; clear hown3 hgrow3 hb3)
 have HO4 := owns_set_lt HO3.out (p := ⟨w.heap.size + 1, 0, none⟩) (Nat.lt_succ_self _) (.slice a3 (0 + q.length) c3)
 simp only [Nat.zero_add, List.nil_append] at HO4
 exact bodyPost_ret (v := .agg #[.slice a3 q.length c3]) (by simp [results, Tryz.results91, go_sem, x0]) rfl
  ⟨a3, c3, rfl, HO4, by simp; omega, b3.setCell (by simp) _⟩
set_option maxRecDepth 100000 in
set_option maxHeartbeats 4000000 in
theorem l03Put_any (a a' : Option Addr) (c c' : Nat) (q l : List (Int × ByteArray)) (w : World) (h : CansIn w a q) (hlen : q.length ≤ 16) (h' : CansIn w a' l) (hlen' : l.length ≤ 1048576) :
  Calls Tryz.prog 37 #[.agg #[.slice a q.length c], .slice a' l.length c'] w (QOut w (if 16 < q.length + l.length then [] else q ++ l) 0 ⟨#[]⟩ (if 16 < q.length + l.length then 9 else 0)) := by
 have HB := Lib.hid (fun o o' : Obj => ((Below.refl w.heap.size w).alloc (Nat.le_refl _) o).alloc (by simp) o')
 have HC := Lib.hid h
 have HC' := Lib.hid h'
 have hw : IntKind.i64.wrap ((q.length : Int) + (l.length : Int)) = (q.length : Int) + l.length := IntWalk.i64_in _ (by omega)
 clear h h'
 by_cases h16 : 16 < q.length + l.length
 ·have hd : decide (16 < (q.length : Int) + (l.length : Int)) = true := decide_eq_true (by omega)
  rw [if_pos h16, if_pos h16]
  go_enter Tryz.func37, Tryz.ntmps37
  go_wp2_with fail
  refine (l03Ill_any _ _).mono ?_
  rintro e w1 ⟨rfl, h1⟩
  have b1 := (HB.out _ _).trans (h1.mono (by simp; omega))
  have HR := (RowAt.new _ _ _).kept h1
  simp only [World.size_alloc] at HR
  have x0 := HR.get 0 _ rfl
  have x1 := HR.get 1 _ rfl
  have x2 := HR.get 2 _ rfl
  have x3 := HR.get 3 _ rfl
  have y := HR.free
  clear HR h1
  go_wp2
  exact bodyPost_ret (v := .agg #[.slice none 0 0, .int .i64 0, .string ⟨#[]⟩, .int .i64 9]) (by simp [results, Tryz.results37, go_sem, x0, x1, x2, x3]) rfl
   ⟨none, 0, rfl, Nat.le_refl _, .inl rfl, (((b1.setCell (by simp) _).setCell (by simp) _).setCell (by simp) _).setCell (by simp) _⟩
 ·have hd : decide (16 < (q.length : Int) + (l.length : Int)) = false := decide_eq_false (by omega)
  rw [if_neg h16, if_neg h16]
  obtain ⟨i0, hi, hz0, hz1, hz2⟩ := info_parts CansTo.info
  have HI := Lib.hid hi
  have hlen2 : q.length + l.length ≤ 16 := by omega
  clear hi hlen' h16
  go_enter Tryz.func37, Tryz.ntmps37
  go_wp2_with fail
  refine (l03Copy_any a c q _ (HC.out.kept (HB.out _ _)) (by omega)).mono ?_
  rintro e w1 ⟨a1, c1, rfl, hown1, hs1, h1⟩
  have b1 := (HB.out _ _).trans (h1.mono (by simp; omega))
  have HR := (RowAt.new _ _ _).kept h1
  simp only [World.size_alloc] at HR hown1 hs1
  have hsa : w.heap.size + 1 + 1 + 2 ≤ (w1.alloc (.cells #[.slice a1 q.length c1] 43)).heap.size := by simp; omega
  have HR1 := Lib.hid HR
  have HO1 := Lib.hid hown1
  clear HR hown1 h1
  have HO1' := Lib.hid (World.ownsRow.alloc HO1.out (.cells #[.slice a1 q.length c1] 43))
  have HC1 := Lib.hid (HC'.out.kept (b1.alloc (by omega) (.cells #[.slice a1 q.length c1] 43)))
  go_wp2_with (at_builtin; go_loud (refine wpList_append_cans rfl (.tmp 17) (.tmp 18) 41 rfl (w.heap.size + 1 + 1 + 2) 66 i0 _ 24 Tryz.underlying41 HI.out hz0 hz1 hz2 rfl _ q.length _ rfl HO1'.out a' c' l rfl HC1.out (by unfold maxLen; omega) (by omega) hsa ?_; intro v3 w3 hown3 hgrow3; obtain ⟨a3, c3, rfl⟩ := owns_slice hown3; have hO : Out (w.heap.size + 1 + 1 + 2) w1.heap.size (w1.alloc (.cells #[.slice a1 q.length c1] 43)) w3 := Out.of_grown hgrow3 (fun k hk => World.ownsRow.lt HO1.out k hk); have HV := (RowAt.new w1 #[.slice a1 q.length c1] 43).out hO (.inr (Nat.le_refl _)); have HR3 := (HR1.out.alloc (.cells #[.slice a1 q.length c1] 43)).out hO (.inl (by omega)); have hk3 := (hO.block w1.heap.size (by simp) (.inr (Nat.le_refl _))).trans (heap_alloc_new w1 (.cells #[.slice a1 q.length c1] 43)); have v0 := HV.get 0 _ rfl; have v1 := HV.free; have x0 := HR3.get 0 _ rfl; have x1 := HR3.get 1 _ rfl; have x2 := HR3.get 2 _ rfl; have x3 := HR3.get 3 _ rfl; have y := HR3.free; have HN3 := Lib.hid (owns_ne hown3 hk3 (by decide)); have b3 := Out.below hO (b1.alloc (by omega) (.cells #[.slice a1 q.length c1] 43)) (by omega) (by simp; omega); have HO3 := Lib.hid hown3; clear hown3 hgrow3 hk3 HV HR3 hO))
  have HO4 := owns_set_lt (owns_set_lt (owns_set_lt (owns_set_lt (owns_set HO3.out (p := ⟨w1.heap.size, 0, none⟩) HN3.out (.slice a3 (q.length + l.length) c3)) (p := ⟨w.heap.size + 1, 0, none⟩) (by simp <;> omega) (.slice a3 (q.length + l.length) c3)) (p := ⟨w.heap.size + 1, 1, none⟩) (by simp <;> omega) (.int .i64 0)) (p := ⟨w.heap.size + 1, 2, none⟩) (by simp <;> omega) (.string ⟨#[]⟩)) (p := ⟨w.heap.size + 1, 3, none⟩) (by simp <;> omega) (.int .i64 0)
  rw [← List.length_append, ← ccells_append] at HO4
  obtain ⟨a4, c4, he4, hc4, hn4⟩ := NewIn.of_owns HO4
  simp only [Value.slice.injEq, true_and] at he4
  obtain ⟨rfl, rfl⟩ := he4
  refine bodyPost_ret (v := .agg #[.slice a3 (q ++ l).length c3, .int .i64 0, .string ⟨#[]⟩, .int .i64 0]) (by simp [results, Tryz.results37, go_sem, x0, x1, x2, x3]) rfl
   ⟨a3, c3, rfl, hc4, NewIn.wide (by simpa using hn4) (by omega) (by simp), ?_⟩
  exact ((((b3.setCell (by simp; omega) _).setCell (by simp) _).setCell (by simp) _).setCell (by simp) _).setCell (by simp) _
end Go.Proofs.YtioldepgoodipaaGreat
