/- Of a drawn text: it is got back from its seal; with any one byte turned it is refused; a CRC goes on from text to text. For every two lists of bytes from which the inputs are drawn. -/
import Derived.Test.YtmimocoeojhjjaaRows
import Derived.Test.YtmimocoeojhjjaaDrawSeal
import Derived.Test.YtmimocoeojhjjaaSealMath
import Derived.Test.YtmimocoeojhjjaaConv
import Derived.WalkKit
import Derived.ProofKit
import Derived.OpenShut
import Derived.ShutString
import Derived.ChangeOld
import Derived.Below
namespace Go.Proofs.Ytmimocoeojhjjaa.fnSeal
open Go.ChangeShapes Go.WideShapes Go.ChangeAt Go.RowKit
open Go.ChangeMaps (open_string shut_string)
set_option linter.unusedVariables false

theorem own : ownKnob Try.prog.godebug = none := by kernel_rfl
theorem laidOut : laidOutB Try.prog = true := by kernel_rfl

/-- WHAT THE WALK IS TOLD OF A SLICE OF INTEGERS THAT CAME IN: it is nil; or it leads to a row of 'cap' cells, the numbers 'zs' (the first 'len' are its elements, the rest its spare room), each fitting its kind. -/
def IsRow (k : IntKind) (w : World) (a : Option Addr) (len cap : Nat) (zs : List Int) : Prop :=
  (a = none ∧ len = 0 ∧ cap = 0 ∧ zs = []) ∨
  ∃ x, a = some x ∧ len ≤ cap ∧ cap ≤ maxLen ∧ zs.length = cap ∧ (∀ i, i < zs.length → w.cell? (x.add i) = some (.int k (zs.getD i 0))) ∧ ∀ n ∈ zs, (Lit.int k n).wf = true

set_option maxHeartbeats 4000000 in
theorem walk (a0 : Option Addr) (len0 cap0 : Nat) (z0 : List Int) (a1 : Option Addr) (len1 cap1 : Nat) (z1 : List Int) (w : World) (w0 : IsRow .u8 w a0 len0 cap0 z0) (w1 : IsRow .u8 w a1 len1 cap1 z1) :
    Calls Try.prog 3 #[.slice a0 len0 cap0, .slice a1 len1 cap1] w fun e w' => e = .returned (.bool true) ∧ Below w.heap.size w w' := by
  obtain ⟨r0, b0⟩ := rowIn_mk w0
  obtain ⟨r1, b1⟩ := rowIn_mk w1
  clear w0 w1
  by_cases hbig : 1048576 < len0
  · have hd : decide (1048576 < (len0 : Int)) = true := by simp; omega
    go_enter Try.func3, Try.ntmps3
    go_wp2_with fail
    go_ret
    exact ⟨rfl, Below.refl _ _⟩
  have hd0 : decide (1048576 < (len0 : Int)) = false := by simp; omega
  by_cases hbig1 : 1048576 < len1
  · have hd : decide (1048576 < (len1 : Int)) = true := by simp; omega
    go_enter Try.func3, Try.ntmps3
    go_wp2_with fail
    go_ret
    exact ⟨rfl, Below.refl _ _⟩
  have hd1 : decide (1048576 < (len1 : Int)) = false := by simp; omega
  have HS := Lib.hid (drawSeal_any a0 len0 cap0 z0 w r0 (by omega) b0)
  have R1 := Lib.hid r1
  have B1 := Lib.hid b1
  have hl1 : len1 ≤ 1048576 := by omega
  clear r0 b0 r1 b1 hbig hbig1
  go_enter Try.func3, Try.ntmps3
  go_wp2_with fail
  refine HS.out.mono ?_
  rintro e u1 ⟨t, ht, rfl, hb1⟩
  go_wp2_with fail
  have hT : (ByteArray.mk t.toArray).size ≤ maxLen := by
    show t.toArray.size ≤ _
    unfold maxLen
    rw [List.size_toArray]
    omega
  refine (implSeal_any _ _ hT).mono ?_
  rintro e u2 ⟨rfl, hb2⟩
  go_wp2_with fail
  refine (specSeal_any _ _ hT).mono ?_
  rintro e u3 ⟨rfl, hb3⟩
  have hmm : (sealB ⟨t.toArray⟩ = [] ∧ 7996 < t.length) ∨ (sealB ⟨t.toArray⟩ = t ++ fourB (crcOf 0 t) ∧ t.length ≤ 7996) := by
    have e : (ByteArray.mk t.toArray).size = t.length := by show t.toArray.size = _; simp
    unfold sealB
    rw [e]
    by_cases h : 7996 < t.length
    · exact .inl ⟨if_pos h, h⟩
    · exact .inr ⟨if_neg h, by omega⟩
  have hb0 : Below w.heap.size w u3 := (hb1.trans (hb2.mono hb1.size)).trans (hb3.mono (Nat.le_trans hb1.size hb2.size))
  have R3 := Lib.hid (R1.out.kept hb0 B1.out)
  have B3 := Lib.hid (fun (h : 0 < len1) b o e => Nat.lt_of_lt_of_le (B1.out h b o e) hb0.size)
  clear hb1 hb2 hb3 R1 B1
  generalize sealB ⟨t.toArray⟩ = m at hmm ⊢
  rcases hmm with ⟨rfl, hlt⟩ | ⟨hM, hlt⟩
  · have HD := Lib.hid (drawCrcMore_any a1 len1 cap1 z1 u3 R3.out (by omega) B3.out)
    clear R3 B3
    go_wp2_with fail
    refine HD.out.mono ?_
    rintro e u4 ⟨v, k, v0, v1, hk, rfl, hb4⟩
    by_cases h8 : 8000 < t.length + k.length
    · have hd8 : decide (8000 < (t.length : Int) + (k.length : Int)) = true := by simp; omega
      go_wp2_with fail
      go_ret
      exact ⟨rfl, hb0.trans (hb4.mono hb0.size)⟩
    · have hd8 : decide (8000 < (t.length : Int) + (k.length : Int)) = false := by simp; omega
      have hK : (ByteArray.mk k.toArray).size ≤ maxLen := by
        show k.toArray.size ≤ _
        unfold maxLen
        rw [List.size_toArray]
        omega
      have hJ : (crcMoreI (crcMoreI 0 ⟨t.toArray⟩) ⟨k.toArray⟩ == crcMoreI 0 (⟨t.toArray⟩ ++ ⟨k.toArray⟩)) = true := by rw [crcMore_join t k (by omega)]; simp
      have hTK : (ByteArray.mk t.toArray ++ ByteArray.mk k.toArray).size ≤ maxLen := by
        rw [ByteArray.mk_append_mk]
        show (_ : Array UInt8).size ≤ _
        unfold maxLen
        simp
        omega
      go_wp2_with (first
        | (go_at_call 12; refine (implCrcMore_all _ _ _ hK).mono ?_; rintro e w5 ⟨rfl, rfl⟩)
        | (go_at_call 13; refine (specCrcMore_all _ _ _ hK).mono ?_; rintro e w5 ⟨rfl, rfl⟩)
        | (go_at_call 14; refine (implCrc_all _ _ hT).mono ?_; rintro e w5 ⟨rfl, rfl⟩)
        | (go_at_call 14; refine (implCrc_all _ _ hTK).mono ?_; rintro e w5 ⟨rfl, rfl⟩))
      go_ret
      exact ⟨rfl, hb0.trans (hb4.mono hb0.size)⟩
  · have hne : (!m.isEmpty) = true := by rw [hM]; simp [fourB]
    have hml : m.length ≤ 8000 := by rw [hM]; simp [fourB_len]; omega
    have HM := Lib.hid hM
    clear hM
    go_wp2_with (first
      | (refine wpList_bytes rfl (.tmp 29) 9 22 5 rfl Try.underlying9 Try.underlying22 Try.underlying5 m rfl (fun cap2 u4 hin4 hb4 hz4 hcap2 => ?_)))
    have R4 := Lib.hid (R3.out.kept hb4 B3.out)
    have B4 := Lib.hid (fun (h : 0 < len1) b o e => Nat.lt_of_lt_of_le (B3.out h b o e) hb4.size)
    refine (lwAt_any a1 len1 cap1 z1 0 m.length _ R4.out (by omega) (by omega) (by omega)).mono ?_
    rintro e w5 ⟨q, rfl, q0, q1, rfl⟩
    obtain ⟨p, rfl⟩ := Int.eq_ofNat_of_zero_le q0
    have hm4 : 4 ≤ m.length := by rw [HM.out]; simp [fourB_len]
    have hp : p < m.length := by omega
    obtain ⟨hcell, hfro⟩ := hin4 p hp
    generalize hbyte : m[p] = b at hcell
    have HBY := Lib.hid hbyte
    clear hbyte
    go_wp2_with fail
    have HL := Lib.hid (fun (u : World) (h : Below u4.heap.size u4 u) => lwAt_any a1 len1 cap1 z1 1 255 u (R4.out.kept h B4.out) (by omega) (by omega) (by omega))
    go_region_with (go_at_call 9; refine (HL.out _ (by first | exact (Below.refl _ _).drew | exact (Below.refl _ _).drew.drew)).mono ?_; rintro e w5 ⟨d, rfl, d0, d1, rfl⟩; obtain ⟨c, hw1, hw2, hx, hcne⟩ := turned_byte b d d0 d1)
    all_goals
      clear hw1 hw2 hx
      have hin5 : BytesIn (World.drew (u4.setCell ⟨u3.heap.size, p, none⟩ (.int .u8 (c.toNat : Int)))) u3.heap.size (m.set p c) := (hin4.set p hp c).drew
      have hb5 : Below u3.heap.size u3 (World.drew (u4.setCell ⟨u3.heap.size, p, none⟩ (.int .u8 (c.toNat : Int)))) := (hb4.setCell (Nat.le_refl _) _).drew
      have hs5 : u3.heap.size < (World.drew (u4.setCell ⟨u3.heap.size, p, none⟩ (.int .u8 (c.toNat : Int)))).heap.size := by simpa using hz4
      generalize World.drew (u4.setCell ⟨u3.heap.size, p, none⟩ (.int .u8 (c.toNat : Int))) = u5 at hin5 hb5 hs5 ⊢
      have hml2 : (m.set p c).length = m.length := by simp
      have hsz : (ByteArray.mk m.toArray).size ≤ maxLen := by
        show m.toArray.size ≤ _
        unfold maxLen
        rw [List.size_toArray]
        omega
      have hsz2 : (ByteArray.mk (m.set p c).toArray).size ≤ maxLen := by
        show (m.set p c).toArray.size ≤ _
        unfold maxLen
        rw [List.size_toArray, hml2]
        omega
      have HU := Lib.hid (fun u => implUnseal_any ⟨m.toArray⟩ u hsz)
      have HU2 := Lib.hid (fun u => implUnseal_any ⟨(m.set p c).toArray⟩ u hsz2)
      have hg : unsealC ⟨m.toArray⟩ = 0 ∧ unsealT ⟨m.toArray⟩ = t := by rw [HM.out]; exact unseal_good t _ rfl hlt rfl
      have hgb : unsealC ⟨(m.set p c).toArray⟩ = 5 := by
        have hk := HM.out
        subst hk
        exact unseal_turned t hlt p hp c (by rw [HBY.out]; exact hcne)
      rw [hg.1, hg.2] at HU
      rw [hgb] at HU2
      have hn : m.length = (m.set p c).length := hml2.symm
      have HN := Lib.hid hn
      clear hg hgb hsz hsz2 hml2 hn hcell hfro
      have HIN := Lib.hid hin5
      clear hin5 hin4 HL R4 B4
      generalize unsealT ⟨(m.set p c).toArray⟩ = l2 at HU2
      go_wp2_with fail
      refine (HU.out _).mono ?_
      rintro e u6 ⟨rfl, hb6⟩
      unfold textOut
      have hcv := (BytesIn.below HIN.out hb6 hs5).conv (P := Try.prog) 22 9 5 Try.underlying22 Try.underlying5 Try.underlying9 m.length HN.out cap2
      have h56 : Below u3.heap.size u3 u6 := hb5.trans (hb6.mono (Nat.le_of_lt hs5))
      clear hb6 HU HN HIN
      go_wp2_with fail
      refine (HU2.out _).mono ?_
      rintro e u7 ⟨rfl, hb7⟩
      unfold textOut
      have h57 : Below u3.heap.size u3 u7 := h56.trans (hb7.mono h56.size)
      have HD := Lib.hid (drawCrcMore_any a1 len1 cap1 z1 u7 (R3.out.kept h57 B3.out) (by omega) (fun h b o e => Nat.lt_of_lt_of_le (B3.out h b o e) h57.size))
      have hfc := run_field_code ⟨l2.toArray⟩ 0 5 u7
      clear hb7 h56 hcv HU2
      go_wp2_with fail
      refine HD.out.mono ?_
      rintro e u9 ⟨v, k, v0, v1, hk, rfl, hb9⟩
      have h59 : Below u3.heap.size u3 u9 := h57.trans (hb9.mono h57.size)
      clear hb9 h57 HD
      by_cases h8 : 8000 < t.length + k.length
      · have hd8 : decide (8000 < (t.length : Int) + (k.length : Int)) = true := by simp; omega
        go_wp2_with fail
        go_ret
        exact ⟨rfl, hb0.trans (h59.mono hb0.size)⟩
      · have hd8 : decide (8000 < (t.length : Int) + (k.length : Int)) = false := by simp; omega
        have hK : (ByteArray.mk k.toArray).size ≤ maxLen := by
          show k.toArray.size ≤ _
          unfold maxLen
          rw [List.size_toArray]
          omega
        have hJ : (crcMoreI (crcMoreI 0 ⟨t.toArray⟩) ⟨k.toArray⟩ == crcMoreI 0 (⟨t.toArray⟩ ++ ⟨k.toArray⟩)) = true := by rw [crcMore_join t k (by omega)]; simp
        have hTK : (ByteArray.mk t.toArray ++ ByteArray.mk k.toArray).size ≤ maxLen := by
          rw [ByteArray.mk_append_mk]
          show (_ : Array UInt8).size ≤ _
          unfold maxLen
          simp
          omega
        go_wp2_with (first
          | (go_at_call 12; refine (implCrcMore_all _ _ _ hK).mono ?_; rintro e w5 ⟨rfl, rfl⟩)
          | (go_at_call 13; refine (specCrcMore_all _ _ _ hK).mono ?_; rintro e w5 ⟨rfl, rfl⟩)
          | (go_at_call 14; refine (implCrc_all _ _ hT).mono ?_; rintro e w5 ⟨rfl, rfl⟩)
          | (go_at_call 14; refine (implCrc_all _ _ hTK).mono ?_; rintro e w5 ⟨rfl, rfl⟩))
        go_ret
        exact ⟨rfl, hb0.trans (h59.mono hb0.size)⟩

set_option maxRecDepth 100000 in
theorem lifted (os : Os) (started : os.Started) (H : Type) (enc : TypeId × Value → H) :
    ReturnsInHanded {} Try.checked os 3 .any (Rows.fnSealSpec.pre6 enc Try.prog Try.f3 Rows.fnSealRow.domain false) (Rows.fnSealSpec.post enc Try.prog Try.f3 false true false false) := by
  refine returnsInHanded_of_change (C := Try.checked) own started (by kernel_rfl) Try.func3
    (ChangeSpec.witness6 (enc := enc) (C := Try.checked) false ⟨#[], #[.slice none 0 0, .slice none 0 0], []⟩ 8 (by kernel_rfl) (by kernel_rfl) (by kernel_rfl) (by kernel_rfl)) ?_
  intro W base args ds gs before hval0 hW hcnd _
  have hval : ∀ (j : Nat) t v, Try.f3.params[j]? = some t → args[j]? = some v → Value.okWide Try.prog W .any base t v := hval0
  have hW' := hW
  obtain ⟨p, q, hA0, hV, rfl, hfz, hnd⟩ := hW
  have hA : DataW.TrodAll enc Try.prog W 0 (fun _ => true) true Try.f3.params.toList args.toList ds p := hA0
  rw [Try.params3] at hA hval
  obtain ⟨v0, vs0, d0, ds0, p0, q0, hargs, rfl, rfl, h0, r0⟩ := trodAll_cons hA
  obtain ⟨v1, vs1, d1, ds1, p1, q1, rfl, rfl, rfl, h1, r1⟩ := trodAll_cons r0
  obtain ⟨rfl, rfl, rfl⟩ := trodAll_nil r1
  obtain rfl : args = #[v0, v1] := by cases args; simp_all
  obtain ⟨rfl, rfl⟩ := trodVars_none hV
  obtain ⟨a0, len0, cap0, rfl⟩ := okWide_slice Try.underlying22 (hval 0 22 v0 rfl rfl)
  have k0 := h0
  have lt0 : ∀ x ∈ p0, x.block < W.heap.size := by obtain ⟨m, hm⟩ := k0; exact DataW.trod_lt m _ _ _ hm
  obtain ⟨z0, w0⟩ : ∃ zs, IsRow .u8 W a0 len0 cap0 zs := by
    obtain ⟨fuel, hf⟩ := h0
    rcases open_ints Try.underlying22 Try.underlying5 (by kernel_rfl) hf with ⟨hcs, _⟩ | ⟨x, l, c, zs, hcs, _, hl, hm, hz, _, hcell, hwz⟩
    · simp [Value.cells] at hcs
      obtain ⟨rfl, rfl, rfl⟩ := hcs
      exact ⟨[], .inl ⟨rfl, rfl, rfl, rfl⟩⟩
    · simp [Value.cells] at hcs
      obtain ⟨rfl, rfl, rfl⟩ := hcs
      exact ⟨zs, .inr ⟨_, rfl, hl, hm, by simpa using hz, hcell, hwz⟩⟩
  obtain ⟨a1, len1, cap1, rfl⟩ := okWide_slice Try.underlying22 (hval 1 22 v1 rfl rfl)
  have k1 := h1
  have lt1 : ∀ x ∈ p1, x.block < W.heap.size := by obtain ⟨m, hm⟩ := k1; exact DataW.trod_lt m _ _ _ hm
  obtain ⟨z1, w1⟩ : ∃ zs, IsRow .u8 W a1 len1 cap1 zs := by
    obtain ⟨fuel, hf⟩ := h1
    rcases open_ints Try.underlying22 Try.underlying5 (by kernel_rfl) hf with ⟨hcs, _⟩ | ⟨x, l, c, zs, hcs, _, hl, hm, hz, _, hcell, hwz⟩
    · simp [Value.cells] at hcs
      obtain ⟨rfl, rfl, rfl⟩ := hcs
      exact ⟨[], .inl ⟨rfl, rfl, rfl, rfl⟩⟩
    · simp [Value.cells] at hcs
      obtain ⟨rfl, rfl, rfl⟩ := hcs
      exact ⟨zs, .inr ⟨_, rfl, hl, hm, by simpa using hz, hcell, hwz⟩⟩
  clear hA0 hval0
  refine (walk a0 len0 cap0 z0 a1 len1 cap1 z1 W w0 w1).mono fun e W' ⟨he, bel⟩ => ?_
  subst he
  exact ⟨_, rfl, _, _, _, [], _, [], hW', trodAll_mk1 (shut_bool Try.underlying4 _), (trodAll_cons_mk (Below.trod laidOut (by kernel_rfl) (of_decide_eq_true (by kernel_rfl)) k0 bel lt0) (trodAll_cons_mk (Below.trod laidOut (by kernel_rfl) (of_decide_eq_true (by kernel_rfl)) k1 bel lt1) trodAll_mk0)), rfl, bel.frame _, fun h => by cases h⟩

theorem over : Rows.fnSealRow.holds Try.pinned (OpenSpec.ofChange Rows.fnSealSpec) :=
  OpenClaim.holds_of_wide 3 Try.f3 rfl rfl rfl rfl rfl rfl rfl ⟨rfl, rfl, rfl, rfl, rfl⟩ rfl rfl rfl rfl rfl (by kernel_rfl) Try.func3 (by kernel_rfl)
    (of_decide_eq_true (by kernel_rfl)) (by unfold Func.isWrapper; first | (rw [if_pos (by decide +kernel)]; kernel_rfl) | (rw [if_neg (by decide +kernel)]; exact ⟨rfl, rfl⟩))
    (fun os started H enc _ => lifted os started H enc)

/-- ████ THE STATEMENT ████ -/
theorem proved : Rows.FnSealSaid := over
#print axioms proved
end Go.Proofs.Ytmimocoeojhjjaa.fnSeal
