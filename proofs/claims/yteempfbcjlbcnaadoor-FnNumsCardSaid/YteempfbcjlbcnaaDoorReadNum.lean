/- What the program's readNum answers: the number that stands at a place, the place behind it, and no error; or zeros and an error that bears a code. For every text of at most 8000 bytes and every place. -/
import Derived.Test.YteempfbcjlbcnaaDoorGetNum
import Derived.Test.YteempfbcjlbcnaaDoorJumps
namespace Go.Proofs.YteempfbcjlbcnaaDoor
open Go.RowKit
set_option linter.unusedVariables false

/-- No error, or one that bears that code. -/
def errV (c : Int) : Value := if c = 0 then .nilIface else .iface 55 (.agg #[.int .i64 c])
theorem or_add {i : Nat} {x c : Int} (hm : Made i x) (h0 : 0 ≤ c) (h1 : c ≤ 255) (hi : i ≤ 9) (h9 : i = 9 → c ≤ 1) : bits BinOp.or IntKind.u64 x (addAt c i) = x + addAt c i := by
  obtain ⟨f0, f1, _⟩ := addAt_facts hm h0 h1 hi h9
  obtain ⟨hm0, hm1⟩ := hm
  have hx : x.toNat < 2 ^ (7 * i) := by
    have e : ((2 ^ (7 * i) : Nat) : Int) = (2 : Int) ^ (7 * i) := by simp
    omega
  have hd : (addAt c i).toNat % 2 ^ (7 * i) = 0 := by
    have e : addAt c i = (((c % 128).toNat * 2 ^ (7 * i) : Nat) : Int) := by
      unfold addAt
      have e1 : (((c % 128).toNat : Nat) : Int) = c % 128 := by omega
      rw [Int.natCast_mul, e1]
      simp
    rw [e, Int.toNat_natCast]
    exact Nat.mul_mod_left _ _
  have hj := nat_join (7 * i) (addAt c i).toNat x.toNat hd hx
  rw [u64_or x (addAt c i) (by omega) (by omega) (by omega) (by omega), Nat.or_comm, hj]
  omega

/-- What holds at the three labels: where more is to be read (1), where the last byte is read (2), where something is wrong (0). -/
def AtMore (s : ByteArray) (a : Int) (R : Int × Int × Int) (y : Act) : Prop :=
  ∃ (x : Int) (i : Nat) (b pl n code : Int) (u12 u13 u14 u15 u16 u17 u18 u19 u20 u21 u22 u23 u24 u25 u26 u27 u28 u29 u30 u31 u32 u33 u34 u35 u36 u37 u38 u39 u40 u41 u42 u43 u44 u45 u46 u47 u48 u49 u50 u51 u52 u53 u54 u55 u56 u57 : Value), y = { tmps := #[.string s, .int .i64 a, undef, undef, .int .i64 0, .int .i64 0, .nilIface, .int .u64 x, .int .u8 b, .int .i64 pl, .int .i64 n, .int .i64 code, u12, u13, u14, u15, u16, u17, u18, u19, u20, u21, u22, u23, u24, u25, u26, u27, u28, u29, u30, u31, u32, u33, u34, u35, u36, u37, u38, u39, u40, u41, u42, u43, u44, u45, u46, u47, u48, u49, u50, u51, u52, u53, u54, u55, u56, u57], defers := [] } ∧ pl = a + i ∧ n = i ∧ i ≤ 9 ∧ a + i ≤ 9223372036854775807 ∧ 0 ≤ a ∧ Made i x ∧ getF s a.toNat (10 - i) i x = R
def AtLast (s : ByteArray) (a : Int) (R : Int × Int × Int) (y : Act) : Prop :=
  ∃ (x : Int) (i : Nat) (c pl n code : Int) (u12 u13 u14 u15 u16 u17 u18 u19 u20 u21 u22 u23 u24 u25 u26 u27 u28 u29 u30 u31 u32 u33 u34 u35 u36 u37 u38 u39 u40 u41 u42 u43 u44 u45 u46 u47 u48 u49 u50 u51 u52 u53 u54 u55 u56 u57 : Value), y = { tmps := #[.string s, .int .i64 a, undef, undef, .int .i64 0, .int .i64 0, .nilIface, .int .u64 x, .int .u8 c, .int .i64 pl, .int .i64 n, .int .i64 code, u12, u13, u14, u15, u16, u17, u18, u19, u20, u21, u22, u23, u24, u25, u26, u27, u28, u29, u30, u31, u32, u33, u34, u35, u36, u37, u38, u39, u40, u41, u42, u43, u44, u45, u46, u47, u48, u49, u50, u51, u52, u53, u54, u55, u56, u57], defers := [] } ∧ pl = a + i ∧ n = i ∧ 1 ≤ i ∧ i ≤ 10 ∧ 0 ≤ c ∧ c ≤ 255 ∧ 0 ≤ a ∧ a + i ≤ 8000 ∧
    ((9 < i ∧ 1 < c ∧ R = (0, 0, 3)) ∨ (1 < i ∧ c ≤ 0 ∧ R = (0, 0, 3)) ∨ ((i < 10 ∨ c ≤ 1) ∧ (1 ≤ c ∨ i ≤ 1) ∧ 0 ≤ x ∧ x ≤ 18446744073709551615 ∧ R = (unfoldI x, a + i, 0)))
def AtWrong (s : ByteArray) (a : Int) (R : Int × Int × Int) (y : Act) : Prop :=
  ∃ (x b p n code : Int) (u12 u13 u14 u15 u16 u17 u18 u19 u20 u21 u22 u23 u24 u25 u26 u27 u28 u29 u30 u31 u32 u33 u34 u35 u36 u37 u38 u39 u40 u41 u42 u43 u44 u45 u46 u47 u48 u49 u50 u51 u52 u53 u54 u55 u56 u57 : Value), y = { tmps := #[.string s, .int .i64 a, undef, undef, .int .i64 0, .int .i64 0, .nilIface, .int .u64 x, .int .u8 b, .int .i64 p, .int .i64 n, .int .i64 code, u12, u13, u14, u15, u16, u17, u18, u19, u20, u21, u22, u23, u24, u25, u26, u27, u28, u29, u30, u31, u32, u33, u34, u35, u36, u37, u38, u39, u40, u41, u42, u43, u44, u45, u46, u47, u48, u49, u50, u51, u52, u53, u54, u55, u56, u57], defers := [] } ∧ 1 ≤ code ∧ R = (0, 0, code)
def AtLabel (s : ByteArray) (a : Int) (R : Int × Int × Int) (w : World) (l : Nat) (y : Act) (u : World) : Prop :=
  w = u ∧ ((l = 1 ∧ AtMore s a R y) ∨ (l = 2 ∧ AtLast s a R y) ∨ (l = 0 ∧ AtWrong s a R y))
def labelSize (l : Nat) (y : Act) (_ : World) : Nat := if l = 1 then 12 - (intOf (y.tmps.getD 10 undef)).toNat else l

set_option maxHeartbeats 1000000 in
theorem unfolded_any (u : Int) (w : World) (h0 : 0 ≤ u) (h1 : u ≤ 18446744073709551615) :
    Calls Tryd.prog 25 #[.int .u64 u] w fun e w' => e = .returned (.int .i64 (unfoldI u)) ∧ w = w' := by
  by_cases h : u % 2 = 1
  · have e : unfoldI u = -(u / 2) - 1 := if_pos h
    have hb : (u % 2 == 1) = true := by simp; omega
    rw [e]
    clear e h
    go_enter Tryd.func25, Tryd.ntmps25
    go_wp2
    go_ret
    exact ⟨rfl, rfl⟩
  · have e : unfoldI u = u / 2 := if_neg h
    have hb : (u % 2 == 1) = false := by simp; omega
    rw [e]
    clear e h
    go_enter Tryd.func25, Tryd.ntmps25
    go_wp2
    go_ret
    exact ⟨rfl, rfl⟩

theorem pull {α : Type} {C : α → Prop} {y : α} (Pr : α → Prop) (h : ∀ y, Pr y → C y) (hy : Pr y) : C y := h y hy

set_option maxHeartbeats 2000000 in
theorem readNum_any (s : ByteArray) (a : Int) (w : World) (hs : s.size ≤ 8000) (h0 : -9223372036854775808 ≤ a) (h1 : a ≤ 9223372036854775807) (R : Int × Int × Int) (hR : Hid ((if a < 0 then (0, 0, 1) else getF s a.toNat 10 0 0) = R)) :
    Calls Tryd.prog 17 #[.string s, .int .i64 a] w fun e w' => e = .returned (.tuple #[.int .i64 R.1, .int .i64 R.2.1, errV R.2.2]) ∧ w = w' := by
  go_enter Tryd.func17, Tryd.ntmps17
  go_wp2
  refine wp_scope_labels (AtLabel s a R w) labelSize ?_ ?_
  · by_cases ha : a < 0
    · have HR := Lib.hid (show R = (0, 0, 1) by rw [← hR.out, if_pos ha])
      go_wp2
      go_step3
      exact ⟨rfl, .inr (.inr ⟨rfl, _, _, _, _, 1, _, _, _, _, _, _, _, _, _, _, _, _, _, _, _, _, _, _, _, _, _, _, _, _, _, _, _, _, _, _, _, _, _, _, _, _, _, _, _, _, _, _, _, _, _, _, rfl, by omega, HR.out⟩)⟩
    · have hr0 := hR.out
      rw [if_neg ha] at hr0
      have HR0 := Lib.hid hr0
      clear hr0
      go_wp2
      refine pull (C := fun y => Code.wp Tryd.prog _ _ y w) (AtMore s a R) ?_ ⟨0, 0, _, _, _, _, _, _, _, _, _, _, _, _, _, _, _, _, _, _, _, _, _, _, _, _, _, _, _, _, _, _, _, _, _, _, _, _, _, _, _, _, _, _, _, _, _, _, _, _, _, _, rfl, by simp, rfl, by omega, by simpa using h1, by omega, Made.zero, HR0.out⟩
      clear HR0 ha
      intro y hm
      obtain ⟨x, i, b, pl, n, code, u12, u13, u14, u15, u16, u17, u18, u19, u20, u21, u22, u23, u24, u25, u26, u27, u28, u29, u30, u31, u32, u33, u34, u35, u36, u37, u38, u39, u40, u41, u42, u43, u44, u45, u46, u47, u48, u49, u50, u51, u52, u53, u54, u55, u56, u57, rfl, rfl, rfl, hi, hfit, ha0, hm, hr⟩ := hm
      have HM := Lib.hid hm
      have hx0 := hm.1
      have HX := Lib.hid hr
      clear hm hr
      by_cases hsh : (s.size : Int) ≤ a + (i : Int)
      · have HR := Lib.hid (show R = (0, 0, 4) by rw [← HX.out, show 10 - i = (9 - i) + 1 by omega, getF, if_pos (by omega)])
        go_step3
        go_wp2
        go_step3
        exact ⟨rfl, .inr (.inr ⟨rfl, _, _, _, _, 4, _, _, _, _, _, _, _, _, _, _, _, _, _, _, _, _, _, _, _, _, _, _, _, _, _, _, _, _, _, _, _, _, _, _, _, _, _, _, _, _, _, _, _, _, _, _, rfl, by omega, HR.out⟩)⟩
      · have hsh' : a + (i : Int) < (s.size : Int) := by omega
        obtain ⟨p, rfl⟩ := Int.eq_ofNat_of_zero_le ha0
        have hlt : p + i < s.size := by omega
        have HY := Lib.hid (show getF s p ((9 - i) + 1) i x = R by have := HX.out; rwa [show 10 - i = (9 - i) + 1 by omega, Int.toNat_natCast] at this)
        clear hsh
        have hc1 := byteAt_get s (p + i) hlt
        have hc0 := byteAt_lo s (p + i)
        have hc2 := byteAt_hi s (p + i)
        have HZ := Lib.hid (show (if i = 9 ∧ 1 < byteAt s (p + i) then ((0, 0, 3) : Int × Int × Int) else if byteAt s (p + i) < 128 then if byteAt s (p + i) = 0 ∧ 0 < i then (0, 0, 3) else (unfoldI (x + addAt (byteAt s (p + i)) i), (p : Int) + i + 1, 0) else getF s p (9 - i) (i + 1) (x + addAt (byteAt s (p + i)) i)) = R by rw [← HY.out, getF, if_neg (by omega : ¬ s.size ≤ p + i)])
        generalize byteAt s (p + i) = c at *
        by_cases h9 : i = 9 ∧ 1 < c
        · have HR := Lib.hid (show R = (0, 0, 3) by rw [← HZ.out, if_pos h9])
          have e1 : ((i : Int) + 1 == 10) = true := by simp; omega
          have hi9 : 9 ≤ i := by omega
          have hcb : 1 < c := by omega
          clear h9
          go_step3
          go_wp2
          all_goals
            go_step3
            exact ⟨rfl, .inr (.inl ⟨rfl, _, i + 1, c, _, _, _, _, _, _, _, _, _, _, _, _, _, _, _, _, _, _, _, _, _, _, _, _, _, _, _, _, _, _, _, _, _, _, _, _, _, _, _, _, _, _, _, _, _, _, _, _, _, rfl, by omega, by omega, by omega, by omega, hc0, hc2, by omega, by omega, .inl ⟨by omega, hcb, HR.out⟩⟩)⟩
        · obtain ⟨hD0, hD1, hD2⟩ := addAt_facts HM.out hc0 hc2 hi (by omega)
          have hor := or_add HM.out hc0 hc2 hi (by omega)
          have HN := Lib.hid (HM.out.next (c := c) hc0)
          have HW := Lib.hid (show (if c < 128 then if c = 0 ∧ 0 < i then ((0, 0, 3) : Int × Int × Int) else (unfoldI (x + addAt c i), (p : Int) + i + 1, 0) else getF s p (9 - i) (i + 1) (x + addAt c i)) = R by rw [← HZ.out, if_neg h9])
          generalize addAt c i = D at *
          have h9' : i < 9 ∨ (9 ≤ i ∧ c ≤ 1) := by omega
          clear h9
          by_cases hcc : c < 128
          · by_cases hz : c = 0 ∧ 0 < i
            · have HR := Lib.hid (show R = (0, 0, 3) by rw [← HW.out, if_pos hcc, if_pos hz])
              obtain ⟨hz1, hz2⟩ := hz
              have hz3 : c ≤ 0 := by omega
              clear hz1
              go_step3
              go_wp2
              go_step3
              exact ⟨rfl, .inr (.inl ⟨rfl, _, i + 1, c, _, _, _, _, _, _, _, _, _, _, _, _, _, _, _, _, _, _, _, _, _, _, _, _, _, _, _, _, _, _, _, _, _, _, _, _, _, _, _, _, _, _, _, _, _, _, _, _, _, rfl, by omega, by omega, by omega, by omega, hc0, hc2, by omega, by omega, .inr (.inl ⟨by omega, hz3, HR.out⟩)⟩)⟩
            · have HR := Lib.hid (show R = (unfoldI (x + D), (p : Int) + ((i + 1 : Nat) : Int), 0) by rw [← HW.out, if_pos hcc, if_neg hz]; simp; omega)
              have hz1 : 1 ≤ c ∨ i + 1 ≤ 1 := by omega
              have hz2 : i + 1 < 10 ∨ c ≤ 1 := by omega
              have HB := Lib.hid (show 0 ≤ x + D ∧ x + D ≤ 18446744073709551615 from ⟨by omega, hD1⟩)
              clear hz
              go_step3
              go_wp2
              go_step3
              exact ⟨rfl, .inr (.inl ⟨rfl, _, i + 1, c, _, _, _, _, _, _, _, _, _, _, _, _, _, _, _, _, _, _, _, _, _, _, _, _, _, _, _, _, _, _, _, _, _, _, _, _, _, _, _, _, _, _, _, _, _, _, _, _, _, rfl, by omega, by omega, by omega, by omega, hc0, hc2, by omega, by omega, .inr (.inr ⟨hz2, hz1, HB.out.1, HB.out.2, HR.out⟩)⟩)⟩
          · have HG := Lib.hid (show getF s (p : Int).toNat (10 - (i + 1)) (i + 1) (x + D) = R by rw [Int.toNat_natCast, show 10 - (i + 1) = 9 - i by omega, ← HW.out, if_neg hcc])
            have hcc' : 128 ≤ c := by omega
            have hi8 : i < 9 := by omega
            have e1 : ((i : Int) + 1 == 10) = false := by simp; omega
            clear hcc h9'
            go_step3
            go_wp2
            go_step3
            exact ⟨rfl, .inl ⟨rfl, _, i + 1, _, _, _, _, _, _, _, _, _, _, _, _, _, _, _, _, _, _, _, _, _, _, _, _, _, _, _, _, _, _, _, _, _, _, _, _, _, _, _, _, _, _, _, _, _, _, _, _, _, _, rfl, by omega, by omega, by omega, by omega, by omega, HN.out, HG.out⟩⟩
  · rintro l y u ⟨rfl, ⟨rfl, hm⟩ | ⟨rfl, hm⟩ | ⟨rfl, hm⟩⟩
    · refine ⟨_, rfl, ?_⟩
      obtain ⟨x, i, b, pl, n, code, u12, u13, u14, u15, u16, u17, u18, u19, u20, u21, u22, u23, u24, u25, u26, u27, u28, u29, u30, u31, u32, u33, u34, u35, u36, u37, u38, u39, u40, u41, u42, u43, u44, u45, u46, u47, u48, u49, u50, u51, u52, u53, u54, u55, u56, u57, rfl, rfl, rfl, hi, hfit, ha0, hm, hr⟩ := hm
      have HM := Lib.hid hm
      have hx0 := hm.1
      have HX := Lib.hid hr
      clear hm hr
      by_cases hsh : (s.size : Int) ≤ a + (i : Int)
      · have HR := Lib.hid (show R = (0, 0, 4) by rw [← HX.out, show 10 - i = (9 - i) + 1 by omega, getF, if_pos (by omega)])
        go_wp2
        go_step3
        exact ⟨⟨rfl, .inr (.inr ⟨rfl, _, _, _, _, 4, _, _, _, _, _, _, _, _, _, _, _, _, _, _, _, _, _, _, _, _, _, _, _, _, _, _, _, _, _, _, _, _, _, _, _, _, _, _, _, _, _, _, _, _, _, _, rfl, by omega, HR.out⟩)⟩, by simp [labelSize, intOf]; try omega⟩
      · have hsh' : a + (i : Int) < (s.size : Int) := by omega
        obtain ⟨p, rfl⟩ := Int.eq_ofNat_of_zero_le ha0
        have hlt : p + i < s.size := by omega
        have HY := Lib.hid (show getF s p ((9 - i) + 1) i x = R by have := HX.out; rwa [show 10 - i = (9 - i) + 1 by omega, Int.toNat_natCast] at this)
        clear hsh
        have hc1 := byteAt_get s (p + i) hlt
        have hc0 := byteAt_lo s (p + i)
        have hc2 := byteAt_hi s (p + i)
        have HZ := Lib.hid (show (if i = 9 ∧ 1 < byteAt s (p + i) then ((0, 0, 3) : Int × Int × Int) else if byteAt s (p + i) < 128 then if byteAt s (p + i) = 0 ∧ 0 < i then (0, 0, 3) else (unfoldI (x + addAt (byteAt s (p + i)) i), (p : Int) + i + 1, 0) else getF s p (9 - i) (i + 1) (x + addAt (byteAt s (p + i)) i)) = R by rw [← HY.out, getF, if_neg (by omega : ¬ s.size ≤ p + i)])
        generalize byteAt s (p + i) = c at *
        by_cases h9 : i = 9 ∧ 1 < c
        · have HR := Lib.hid (show R = (0, 0, 3) by rw [← HZ.out, if_pos h9])
          have e1 : ((i : Int) + 1 == 10) = true := by simp; omega
          have hi9 : 9 ≤ i := by omega
          have hcb : 1 < c := by omega
          clear h9
          go_wp2
          all_goals
            go_step3
            exact ⟨⟨rfl, .inr (.inl ⟨rfl, _, i + 1, c, _, _, _, _, _, _, _, _, _, _, _, _, _, _, _, _, _, _, _, _, _, _, _, _, _, _, _, _, _, _, _, _, _, _, _, _, _, _, _, _, _, _, _, _, _, _, _, _, _, rfl, by omega, by omega, by omega, by omega, hc0, hc2, by omega, by omega, .inl ⟨by omega, hcb, HR.out⟩⟩)⟩, by simp [labelSize, intOf]; try omega⟩
        · obtain ⟨hD0, hD1, hD2⟩ := addAt_facts HM.out hc0 hc2 hi (by omega)
          have hor := or_add HM.out hc0 hc2 hi (by omega)
          have HN := Lib.hid (HM.out.next (c := c) hc0)
          have HW := Lib.hid (show (if c < 128 then if c = 0 ∧ 0 < i then ((0, 0, 3) : Int × Int × Int) else (unfoldI (x + addAt c i), (p : Int) + i + 1, 0) else getF s p (9 - i) (i + 1) (x + addAt c i)) = R by rw [← HZ.out, if_neg h9])
          generalize addAt c i = D at *
          have h9' : i < 9 ∨ (9 ≤ i ∧ c ≤ 1) := by omega
          clear h9
          by_cases hcc : c < 128
          · by_cases hz : c = 0 ∧ 0 < i
            · have HR := Lib.hid (show R = (0, 0, 3) by rw [← HW.out, if_pos hcc, if_pos hz])
              obtain ⟨hz1, hz2⟩ := hz
              have hz3 : c ≤ 0 := by omega
              clear hz1
              go_wp2
              go_step3
              exact ⟨⟨rfl, .inr (.inl ⟨rfl, _, i + 1, c, _, _, _, _, _, _, _, _, _, _, _, _, _, _, _, _, _, _, _, _, _, _, _, _, _, _, _, _, _, _, _, _, _, _, _, _, _, _, _, _, _, _, _, _, _, _, _, _, _, rfl, by omega, by omega, by omega, by omega, hc0, hc2, by omega, by omega, .inr (.inl ⟨by omega, hz3, HR.out⟩)⟩)⟩, by simp [labelSize, intOf]; try omega⟩
            · have HR := Lib.hid (show R = (unfoldI (x + D), (p : Int) + ((i + 1 : Nat) : Int), 0) by rw [← HW.out, if_pos hcc, if_neg hz]; simp; omega)
              have hz1 : 1 ≤ c ∨ i + 1 ≤ 1 := by omega
              have hz2 : i + 1 < 10 ∨ c ≤ 1 := by omega
              have HB := Lib.hid (show 0 ≤ x + D ∧ x + D ≤ 18446744073709551615 from ⟨by omega, hD1⟩)
              clear hz
              go_wp2
              go_step3
              exact ⟨⟨rfl, .inr (.inl ⟨rfl, _, i + 1, c, _, _, _, _, _, _, _, _, _, _, _, _, _, _, _, _, _, _, _, _, _, _, _, _, _, _, _, _, _, _, _, _, _, _, _, _, _, _, _, _, _, _, _, _, _, _, _, _, _, rfl, by omega, by omega, by omega, by omega, hc0, hc2, by omega, by omega, .inr (.inr ⟨hz2, hz1, HB.out.1, HB.out.2, HR.out⟩)⟩)⟩, by simp [labelSize, intOf]; try omega⟩
          · have HG := Lib.hid (show getF s (p : Int).toNat (10 - (i + 1)) (i + 1) (x + D) = R by rw [Int.toNat_natCast, show 10 - (i + 1) = 9 - i by omega, ← HW.out, if_neg hcc])
            have hcc' : 128 ≤ c := by omega
            have hi8 : i < 9 := by omega
            have e1 : ((i : Int) + 1 == 10) = false := by simp; omega
            clear hcc h9'
            go_wp2
            go_step3
            exact ⟨⟨rfl, .inl ⟨rfl, _, i + 1, _, _, _, _, _, _, _, _, _, _, _, _, _, _, _, _, _, _, _, _, _, _, _, _, _, _, _, _, _, _, _, _, _, _, _, _, _, _, _, _, _, _, _, _, _, _, _, _, _, _, rfl, by omega, by omega, by omega, by omega, by omega, HN.out, HG.out⟩⟩, by simp [labelSize, intOf]; try omega⟩
    · refine ⟨_, rfl, ?_⟩
      obtain ⟨x, i, c, pl, n, code, u12, u13, u14, u15, u16, u17, u18, u19, u20, u21, u22, u23, u24, u25, u26, u27, u28, u29, u30, u31, u32, u33, u34, u35, u36, u37, u38, u39, u40, u41, u42, u43, u44, u45, u46, u47, u48, u49, u50, u51, u52, u53, u54, u55, u56, u57, rfl, rfl, rfl, hi1, hi2, hc0, hc2, ha0, hfit, hcase⟩ := hm
      rcases hcase with ⟨hi9, hcb, hr⟩ | ⟨hi9, hcb, hr⟩ | ⟨hz1, hz2, hx0, hx1, hr⟩
      · have HR := Lib.hid hr
        have e1 : ((i : Int) == 10) = true := by simp; omega
        have e2 : decide (1 < c) = true := by simp; omega
        clear hr
        go_wp2
        go_step3
        exact ⟨⟨rfl, .inr (.inr ⟨rfl, _, _, _, _, 3, _, _, _, _, _, _, _, _, _, _, _, _, _, _, _, _, _, _, _, _, _, _, _, _, _, _, _, _, _, _, _, _, _, _, _, _, _, _, _, _, _, _, _, _, _, _, rfl, by omega, HR.out⟩)⟩, by simp [labelSize]⟩
      · have HR := Lib.hid hr
        have e3 : (c == 0) = true := by simp; omega
        have e2 : decide (1 < c) = false := by simp; omega
        have e4 : decide (1 < (i : Int)) = true := by simp; omega
        clear hr
        by_cases hten : i = 10
        · have e1 : ((i : Int) == 10) = true := by simp; omega
          clear hten
          go_wp2
          go_step3
          exact ⟨⟨rfl, .inr (.inr ⟨rfl, _, _, _, _, 3, _, _, _, _, _, _, _, _, _, _, _, _, _, _, _, _, _, _, _, _, _, _, _, _, _, _, _, _, _, _, _, _, _, _, _, _, _, _, _, _, _, _, _, _, _, _, rfl, by omega, HR.out⟩)⟩, by simp [labelSize]⟩
        · have e1 : ((i : Int) == 10) = false := by simp; omega
          clear hten
          go_wp2
          go_step3
          exact ⟨⟨rfl, .inr (.inr ⟨rfl, _, _, _, _, 3, _, _, _, _, _, _, _, _, _, _, _, _, _, _, _, _, _, _, _, _, _, _, _, _, _, _, _, _, _, _, _, _, _, _, _, _, _, _, _, _, _, _, _, _, _, _, rfl, by omega, HR.out⟩)⟩, by simp [labelSize]⟩
      · have HR := Lib.hid hr
        have HE := Lib.hid (show errV 0 = .nilIface from rfl)
        clear hr
        go_wp2_with (go_at_call 25; refine (unfolded_any _ _ hx0 hx1).mono ?_; rintro e w' ⟨rfl, rfl⟩)
        all_goals
          rw [Jumps_ret]
          go_ret3
          exact ⟨by rw [HR.out, HE.out]; first | rfl | (simp; omega), rfl⟩
    · refine ⟨_, rfl, ?_⟩
      obtain ⟨x, b, p, n, code, u12, u13, u14, u15, u16, u17, u18, u19, u20, u21, u22, u23, u24, u25, u26, u27, u28, u29, u30, u31, u32, u33, u34, u35, u36, u37, u38, u39, u40, u41, u42, u43, u44, u45, u46, u47, u48, u49, u50, u51, u52, u53, u54, u55, u56, u57, rfl, hc, hr⟩ := hm
      have HR := Lib.hid hr
      clear hr
      have HE := Lib.hid (show errV code = .iface 55 (.agg #[.int .i64 code]) from if_neg (by omega))
      go_wp2
      rw [Jumps_ret]
      go_ret3
      exact ⟨by rw [HR.out, HE.out]; rfl, rfl⟩
end Go.Proofs.YteempfbcjlbcnaaDoor
