/- A drawn number, or text, is got back from its bytes, with the place behind it; of bytes that end too early nothing is got. For every two lists of bytes from which the inputs are drawn; the variable errors.errorType is tied to the program's text. -/
import Derived.Test.YteempfbcjlbcnaaDoorRows
import Derived.Test.YteempfbcjlbcnaaDoorDrawNums
import Derived.Test.YteempfbcjlbcnaaDoorNumMath
import Derived.Test.YteempfbcjlbcnaaDoorImplGetText
import Derived.Test.YteempfbcjlbcnaaDoorLaid
import Derived.Test.YteempfbcjlbcnaaDoorConv
import Derived.WalkKit
import Derived.ProofKit
import Derived.OpenShut
import Derived.ShutString
import Derived.ChangeOld
import Derived.Below
import Derived.ChangeSame
import Derived.ChangeVars
import Derived.JoinedOf
import Derived.RowKit
import Derived.RowKitTokens
import Derived.LaidLaws
import Derived.LaidHandle
import Derived.Stop.Joined
import Derived.SevenTiedAt
import Derived.Test.YteempfbcjlbcnaaDoorTie
import Derived.Test.YteempfbcjlbcnaaDoorCards
namespace Go.Proofs.YteempfbcjlbcnaaDoor.fnNums
open Go.ChangeShapes Go.WideShapes Go.ChangeAt Go.RowKit
open Go.ChangeMaps (open_string shut_string)
set_option linter.unusedVariables false

theorem own : ownKnob Tryd.prog.godebug = none := by kernel_rfl
theorem laidOut : laidOutB Tryd.prog = true := by kernel_rfl

/-- WHAT THE WALK IS TOLD OF A SLICE OF INTEGERS THAT CAME IN: it is nil; or it leads to a row of 'cap' cells, the numbers 'zs' (the first 'len' are its elements, the rest its spare room), each fitting its kind. -/
def IsRow (k : IntKind) (w : World) (a : Option Addr) (len cap : Nat) (zs : List Int) : Prop :=
  (a = none ∧ len = 0 ∧ cap = 0 ∧ zs = []) ∨
  ∃ x, a = some x ∧ len ≤ cap ∧ cap ≤ maxLen ∧ zs.length = cap ∧ (∀ i, i < zs.length → w.cell? (x.add i) = some (.int k (zs.getD i 0))) ∧ ∀ n ∈ zs, (Lit.int k n).wf = true

set_option maxHeartbeats 4000000 in
theorem walk (a0 : Option Addr) (len0 cap0 : Nat) (z0 : List Int) (a1 : Option Addr) (len1 cap1 : Nat) (z1 : List Int) (w : World) (w0 : IsRow .u8 w a0 len0 cap0 z0) (w1 : IsRow .u8 w a1 len1 cap1 z1) (hl : Laid w) :
    Calls Tryd.prog 3 #[.slice a0 len0 cap0, .slice a1 len1 cap1] w fun e w' => e = .returned (.bool true) ∧ Below w.heap.size w w' := by
  obtain ⟨r0, b0⟩ := rowIn_mk w0
  obtain ⟨r1, b1⟩ := rowIn_mk w1
  clear w0 w1
  by_cases hbig : 1048576 < len0
  · have hd : decide (1048576 < (len0 : Int)) = true := by simp; omega
    go_enter Tryd.func3, Tryd.ntmps3
    go_wp2_with fail
    go_ret
    exact ⟨rfl, Below.refl _ _⟩
  have hd0 : decide (1048576 < (len0 : Int)) = false := by simp; omega
  by_cases hbig1 : 1048576 < len1
  · have hd : decide (1048576 < (len1 : Int)) = true := by simp; omega
    go_enter Tryd.func3, Tryd.ntmps3
    go_wp2_with fail
    go_ret
    exact ⟨rfl, Below.refl _ _⟩
  have hd1 : decide (1048576 < (len1 : Int)) = false := by simp; omega
  have HS := Lib.hid (drawPutNum_any a0 len0 cap0 z0 w r0 (by omega) b0)
  have R1 := Lib.hid r1
  have B1 := Lib.hid b1
  have HL := Lib.hid hl
  have hpos := hl.pos
  have hl1 : len1 ≤ 1048576 := by omega
  clear r0 b0 r1 b1 hbig hbig1 hl
  go_enter Tryd.func3, Tryd.ntmps3
  go_wp2_with fail
  refine HS.out.mono ?_
  rintro e u1 ⟨n, rfl, n0, n1, hb1⟩
  have hnl := numBytes_len n
  have hnp := numBytes_pos n
  have HB := Lib.hid (show ∀ a z : List UInt8, a.length + (numBytes n).length + z.length ≤ 8000 → getNumR ⟨(a ++ numBytes n ++ z).toArray⟩ a.length = (n, ((a.length + (numBytes n).length : Nat) : Int), 0) from fun a z h => getNum_back a z n n0 n1 h)
  have HSH := Lib.hid (getNum_short n)
  go_wp2_with fail
  refine (implPutNum_any n _ n0 n1).mono ?_
  rintro e u2 ⟨rfl, hb2⟩
  go_wp2_with fail
  refine (specPutNum_any n _ n0 n1).mono ?_
  rintro e u3 ⟨rfl, hb3⟩
  have hb0 : Below w.heap.size w u3 := (hb1.trans (hb2.mono hb1.size)).trans (hb3.mono (Nat.le_trans hb1.size hb2.size))
  clear hb1 hb2 hb3 HS
  generalize numBytes n = l at *
  have hp1 : decide ((l.length : Int) < 1) = false := by simp; omega
  have hp2 : decide (10 < (l.length : Int)) = false := by simp; omega
  have e3 : (ByteArray.mk #[120, 121] ++ ByteArray.mk l.toArray ++ ByteArray.mk #[122]) = ⟨([120, 121] ++ l ++ [122]).toArray⟩ := by
    rw [show (ByteArray.mk #[120, 121]) = ByteArray.mk [120, 121].toArray from rfl, show (ByteArray.mk #[122]) = ByteArray.mk [122].toArray from rfl, ByteArray.mk_append_mk, ByteArray.mk_append_mk]
  have hg1 : getNumR (ByteArray.mk #[120, 121] ++ ByteArray.mk l.toArray ++ ByteArray.mk #[122]) 2 = (n, (l.length : Int) + 2, 0) := by
    rw [e3]
    have h := HB.out [120, 121] [122] (by simp; omega)
    have e : (((([120, 121] : List UInt8).length + l.length : Nat)) : Int) = (l.length : Int) + 2 := by simp; omega
    rw [e] at h
    exact h
  have hs3 : (ByteArray.mk #[120, 121] ++ ByteArray.mk l.toArray ++ ByteArray.mk #[122]).size ≤ maxLen := by
    rw [e3]
    show (_ : Array UInt8).size ≤ _
    unfold maxLen
    simp
    omega
  have HG1 := Lib.hid hg1
  clear hg1 e3
  go_wp2_with fail
  refine (implGetNum_any _ _ _ (HL.out.below hb0 hpos) hs3 (by omega) (by omega)).mono ?_
  rw [HG1.out]
  rintro e u4 ⟨rfl, hb4⟩
  unfold numOut
  clear HG1 HB
  have hcut : (ByteArray.mk l.toArray).extract 0 (l.length - 1) = ⟨l.dropLast.toArray⟩ := by
    rw [extract_take]
    simp [List.dropLast_eq_take]
  have HG2 := Lib.hid (show getNumR ((ByteArray.mk l.toArray).extract 0 (l.length - 1)) 0 = (0, 0, 4) by rw [hcut]; exact HSH.out)
  have hs4 : ((ByteArray.mk l.toArray).extract 0 (l.length - 1)).size ≤ maxLen := by
    rw [hcut]
    show (_ : Array UInt8).size ≤ _
    unfold maxLen
    simp
    omega
  have hb40 : Below w.heap.size w u4 := hb0.trans (hb4.mono hb0.size)
  clear hcut HSH hs3 hb4 hb0
  go_wp2_with fail
  have hb5 := hb40.alloc hb40.size (Obj.cells #[Value.int IntKind.i64 n, Value.int IntKind.i64 (↑l.length + 2), Value.int IntKind.i64 0] 26)
  refine (implGetNum_any _ _ _ (HL.out.below hb5 hpos) hs4 (by omega) (by omega)).mono ?_
  rw [HG2.out]
  rintro e u6 ⟨rfl, hb6⟩
  unfold numOut
  have hb60 : Below w.heap.size w u6 := hb5.trans (hb6.mono hb5.size)
  have hfc := run_field_num 0 0 4 u6
  have HD := Lib.hid (drawPutText_any a1 len1 cap1 z1 u6 (R1.out.kept hb60 B1.out) (by omega) (fun h b o e => Nat.lt_of_lt_of_le (B1.out h b o e) hb60.size))
  clear hb40 hb5 hb6 HG2 hs4
  go_wp2_with fail
  refine HD.out.mono ?_
  rintro e u7 ⟨k, hk, rfl, hb7⟩
  have hb70 : Below w.heap.size w u7 := hb60.trans (hb7.mono hb60.size)
  have hK : (ByteArray.mk k.toArray).size ≤ maxLen := by
    show k.toArray.size ≤ _
    unfold maxLen
    rw [List.size_toArray]
    omega
  have hmm : (putTextB ⟨k.toArray⟩ = []) ∨ (putTextB ⟨k.toArray⟩ = numBytes (k.length : Int) ++ k ∧ k.length ≤ 8000) := by
    by_cases h : 8000 < k.length
    · refine .inl ?_
      unfold putTextB
      rw [if_pos (by show 8000 < k.toArray.size; simpa using h)]
    · exact .inr ⟨putTextB_eq k (by omega), by omega⟩
  have HP1 := Lib.hid (fun u => implPutText_any ⟨k.toArray⟩ u hK)
  have HP2 := Lib.hid (fun u => specPutText_any ⟨k.toArray⟩ u hK)
  clear hfc HD hb60 hb7 R1 B1
  generalize putTextB ⟨k.toArray⟩ = q at hmm HP1 HP2
  go_wp2_with fail
  refine (HP1.out _).mono ?_
  rintro e u8 ⟨rfl, hb8⟩
  have hb80 : Below w.heap.size w u8 := hb70.trans (hb8.mono hb70.size)
  clear hb70 hb8 HP1
  rcases hmm with rfl | ⟨hq, hk8⟩
  · go_wp2_with fail
    refine (HP2.out _).mono ?_
    rintro e u9 ⟨rfl, hb9⟩
    have hb90 : Below w.heap.size w u9 := hb80.trans (hb9.mono hb80.size)
    clear hb80 hb9
    go_wp2_with fail
    refine (HP2.out _).mono ?_
    rintro e u10 ⟨rfl, hb10⟩
    go_wp2_with fail
    go_ret
    exact ⟨rfl, hb90.trans (hb10.mono hb90.size)⟩
  · have hne : q.isEmpty = false := by
      have := numBytes_pos (k.length : Int)
      rw [hq]
      cases h : numBytes (k.length : Int) <;> simp_all
    have HQ := Lib.hid hq
    clear hq
    have hq1 : 1 ≤ q.length := by
      have := numBytes_pos (k.length : Int)
      rw [HQ.out]
      simp
      omega
    have hq2 : q.length ≤ 9000 := by
      have := numBytes_len (k.length : Int)
      rw [HQ.out]
      simp
      omega
    go_wp2_with fail
    refine (HP2.out _).mono ?_
    rintro e u9 ⟨rfl, hb9⟩
    have hb90 : Below w.heap.size w u9 := hb80.trans (hb9.mono hb80.size)
    clear hb80 hb9 HP2
    by_cases h8 : 8000 < q.length + 1
    · have hd8 : decide (8000 < (q.length : Int) + 1) = true := by simp; omega
      have hw8 : IntKind.i64.wrap ((q.length : Int) + 1) = q.length + 1 := IntWalk.i64_in _ (by omega)
      go_wp2_with fail
      go_ret
      exact ⟨rfl, hb90⟩
    · have hd8 : decide (8000 < (q.length : Int) + 1) = false := by simp; omega
      have h8' : q.length + 1 ≤ 8000 := by omega
      have hcut : (ByteArray.mk q.toArray).extract 0 (q.length - 1) = ⟨q.dropLast.toArray⟩ := by
        rw [extract_take]
        simp [List.dropLast_eq_take]
      have e1 : (ByteArray.mk #[120] ++ ByteArray.mk q.toArray) = ⟨(120 :: q).toArray⟩ := by
        rw [show (ByteArray.mk #[120]) = ByteArray.mk [120].toArray from rfl, ByteArray.mk_append_mk]
        rfl
      have T1 := Lib.hid (show textR (ByteArray.mk #[120] ++ ByteArray.mk q.toArray) (getNumR (ByteArray.mk #[120] ++ ByteArray.mk q.toArray) 1) = (k, (q.length : Int) + 1, 0) by
        rw [e1]
        have h8q := h8'
        rw [HQ.out] at h8q ⊢
        exact getText_back 120 k h8q)
      have T2 := Lib.hid (show textR ((ByteArray.mk q.toArray).extract 0 (q.length - 1)) (getNumR ((ByteArray.mk q.toArray).extract 0 (q.length - 1)) 0) = ([], 0, 4) by
        rw [hcut]
        have h8q := h8'
        rw [HQ.out] at h8q ⊢
        exact getText_short k h8q)
      have hs1 : (ByteArray.mk #[120] ++ ByteArray.mk q.toArray).size ≤ maxLen := by
        rw [e1]
        show (_ : Array UInt8).size ≤ _
        unfold maxLen
        simp
        omega
      have hs2 : ((ByteArray.mk q.toArray).extract 0 (q.length - 1)).size ≤ maxLen := by
        rw [hcut]
        show (_ : Array UInt8).size ≤ _
        unfold maxLen
        simp
        omega
      clear hcut e1
      go_wp2_with fail
      refine (implGetText_any _ _ _ (HL.out.below hb90 hpos) hs1 (by omega) (by omega) _ T1).mono ?_
      rintro e u10 ⟨rfl, hb10⟩
      unfold textOut
      have hb100 : Below w.heap.size w u10 := hb90.trans (hb10.mono hb90.size)
      clear hb90 hb10
      go_wp2_with fail
      refine (implGetText_any _ _ _ (HL.out.below hb100 hpos) hs2 (by omega) (by omega) _ T2).mono ?_
      rintro e u11 ⟨rfl, hb11⟩
      unfold textOut
      have hfc := run_field_code ⟨([] : List UInt8).toArray⟩ 0 4 u11
      go_wp2_with fail
      go_ret
      exact ⟨rfl, hb100.trans (hb11.mono hb100.size)⟩

set_option maxRecDepth 100000 in
theorem lifted (os : Os) (started : os.Started) (H : Type) (enc : TypeId × Value → H) :
    ReturnsInHanded {} Tryd.checked os 3 .any (fun w args => (Rows.fnNumsSpec.pre enc Tryd.prog Tryd.f3 [] false w args ∧ laidMetH Tryd.prog [("errors.errorType", Rows.laid_errors_errorType)] w) ∧ sizedMet enc Tryd.prog Tryd.f3 (OpenSpec.ofChange Rows.fnNumsSpec) false w args)
      (Rows.fnNumsSpec.post enc Tryd.prog Tryd.f3 false true false false) := by
  refine returnsInHanded_of_change_and (C := Tryd.checked) (X := fun w _ => laidMetH Tryd.prog [("errors.errorType", Rows.laid_errors_errorType)] w) (fun _ _ _ hh h => h.of_heap hh) own started (by kernel_rfl) Tryd.func3
    (ChangeSpec.witness_at (enc := enc) (C := Tryd.checked) (os := os) (X := fun w _ => laidMetH Tryd.prog [("errors.errorType", Rows.laid_errors_errorType)] w) false (laidWorld os) #[.slice none 0 0, .slice none 0 0] 8 rfl (by kernel_rfl) (by kernel_rfl) (by kernel_rfl) (by kernel_rfl) (by kernel_rfl) (laidWorld_met os _)) ?_
  intro W base args ds gs before hval0 hW _ _ hL _
  have hLaid := laid_of hL
  have hval : ∀ (j : Nat) t v, Tryd.f3.params[j]? = some t → args[j]? = some v → Value.okWide Tryd.prog W .any base t v := hval0
  have hW' := hW
  obtain ⟨p, q, hA0, hV0, rfl, hfz, hnd⟩ := hW
  have hV : DataW.TrodVars enc Tryd.prog W (fun _ => true) [] gs q := hV0
  have hA : DataW.TrodAll enc Tryd.prog W 0 (fun _ => true) true Tryd.f3.params.toList args.toList ds p := hA0
  rw [Tryd.params3] at hA hval
  obtain ⟨v0, vs0, d0, ds0, p0, q0, hargs, rfl, rfl, h0, r0⟩ := trodAll_cons hA
  obtain ⟨v1, vs1, d1, ds1, p1, q1, rfl, rfl, rfl, h1, r1⟩ := trodAll_cons r0
  obtain ⟨rfl, rfl, rfl⟩ := trodAll_nil r1
  obtain rfl : args = #[v0, v1] := by cases args; simp_all
  obtain ⟨rfl, rfl⟩ := trodVars_none hV
  obtain ⟨a0, len0, cap0, rfl⟩ := okWide_slice Tryd.underlying22 (hval 0 22 v0 rfl rfl)
  have k0 := h0
  have lt0 : ∀ x ∈ p0, x.block < W.heap.size := by obtain ⟨m, hm⟩ := k0; exact DataW.trod_lt m _ _ _ hm
  obtain ⟨z0, w0⟩ : ∃ zs, IsRow .u8 W a0 len0 cap0 zs := by
    obtain ⟨fuel, hf⟩ := h0
    rcases open_ints Tryd.underlying22 Tryd.underlying5 (by kernel_rfl) hf with ⟨hcs, _⟩ | ⟨x, l, c, zs, hcs, _, hl, hm, hz, _, hcell, hwz⟩
    · simp [Value.cells] at hcs
      obtain ⟨rfl, rfl, rfl⟩ := hcs
      exact ⟨[], .inl ⟨rfl, rfl, rfl, rfl⟩⟩
    · simp [Value.cells] at hcs
      obtain ⟨rfl, rfl, rfl⟩ := hcs
      exact ⟨zs, .inr ⟨_, rfl, hl, hm, by simpa using hz, hcell, hwz⟩⟩
  obtain ⟨a1, len1, cap1, rfl⟩ := okWide_slice Tryd.underlying22 (hval 1 22 v1 rfl rfl)
  have k1 := h1
  have lt1 : ∀ x ∈ p1, x.block < W.heap.size := by obtain ⟨m, hm⟩ := k1; exact DataW.trod_lt m _ _ _ hm
  obtain ⟨z1, w1⟩ : ∃ zs, IsRow .u8 W a1 len1 cap1 zs := by
    obtain ⟨fuel, hf⟩ := h1
    rcases open_ints Tryd.underlying22 Tryd.underlying5 (by kernel_rfl) hf with ⟨hcs, _⟩ | ⟨x, l, c, zs, hcs, _, hl, hm, hz, _, hcell, hwz⟩
    · simp [Value.cells] at hcs
      obtain ⟨rfl, rfl, rfl⟩ := hcs
      exact ⟨[], .inl ⟨rfl, rfl, rfl, rfl⟩⟩
    · simp [Value.cells] at hcs
      obtain ⟨rfl, rfl, rfl⟩ := hcs
      exact ⟨zs, .inr ⟨_, rfl, hl, hm, by simpa using hz, hcell, hwz⟩⟩
  clear hA0 hval0
  refine (walk a0 len0 cap0 z0 a1 len1 cap1 z1 W w0 w1 hLaid).mono fun e W' ⟨he, bel⟩ => ?_
  subst he
  exact ⟨_, rfl, _, _, _, [], _, [], hW', trodAll_mk1 (shut_bool Tryd.underlying4 _), (trodAll_cons_mk (Below.trod laidOut (by kernel_rfl) (of_decide_eq_true (by kernel_rfl)) k0 bel lt0) (trodAll_cons_mk (Below.trod laidOut (by kernel_rfl) (of_decide_eq_true (by kernel_rfl)) k1 bel lt1) trodAll_mk0)), rfl, bel.frame _, fun h => by cases h⟩

theorem over : Rows.fnNumsRow.holds Tryd.pinned (OpenSpec.ofChange Rows.fnNumsSpec) :=
  OpenClaim.holds_of_wide 3 Tryd.f3 rfl rfl rfl rfl rfl rfl rfl ⟨rfl, rfl, rfl, rfl, rfl⟩ rfl rfl rfl rfl rfl (by kernel_rfl) Tryd.func3 (by kernel_rfl)
    (of_decide_eq_true (by kernel_rfl)) (by unfold Func.isWrapper; first | (rw [if_pos (by decide +kernel)]; kernel_rfl) | (rw [if_neg (by decide +kernel)]; exact ⟨rfl, rfl⟩))
    (fun os started H enc _ => lifted os started H enc)

theorem proved : Rows.FnNumsCardSaid :=
  Claim7.holds_tied_plain_at .later [] [.handle] true (true, "16fd5cfe911443a6cac6300d2fb4a68296a6772f37b9d288f34473d707cde8a6") true
    over (fun _ h => by cases h) (by kernel_rfl) (fun _ h => by cases h) fnNums_row_tie rfl ⟨rfl, rfl⟩ (by kernel_rfl) rfl
    (fun f fn hf hfn => by
      obtain rfl : f = 3 := Option.some.inj ((show Tryd.prog.funcNamed "loop.example/g00628/laws.FnNums" = some 3 by kernel_rfl).symm.trans hf) |>.symm
      obtain rfl : fn = Tryd.f3 := (Option.some.inj (Tryd.func3.symm.trans hfn)).symm
      exact ⟨by kernel_rfl, fun j t ht => by
        rw [Tryd.params3] at ht
        rcases j with _ | (_ | j)
        · obtain rfl : t = 22 := by simpa using ht.symm
          exact (show Tryd.prog.wantsStandIn 22 = false by kernel_rfl)
        · obtain rfl : t = 22 := by simpa using ht.symm
          exact (show Tryd.prog.wantsStandIn 22 = false by kernel_rfl)
        · simp at ht⟩)
    (by kernel_rfl)
#print axioms proved
end Go.Proofs.YteempfbcjlbcnaaDoor.fnNums
