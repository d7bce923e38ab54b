/- The next address that is not taken: the model's and the program's; two names alike. Nothing that was there is written. -/
import Derived.Test.YtdhmcepnmbchkaaSearch
import Derived.Test.YtdhmcepnmbchkaaLit
namespace Go.Proofs.Ytdhmcepnmbchkaa
open Go.RowKit
set_option linter.unusedVariables false

/-- Who has as many as there are has all of them. -/
theorem riseB_full {p : Int} {l : List Int} (h : riseB p l = true) (hp : -1 ≤ p) (hl : 251 - p ≤ (l.length : Int)) : ∀ v : Int, p < v → v ≤ 251 → v ∈ l := by
  induction l generalizing p with
  | nil => intro v h1 h2; simp at hl; omega
  | cons y r ih =>
    obtain ⟨h0, h1, h2⟩ := riseB_cons h
    have h3 := riseB_len h2 h0.2
    simp at hl
    have hy : y = p + 1 := by omega
    intro v hv hv'
    rcases Int.lt_or_le y v with h' | h'
    · exact List.mem_cons_of_mem _ (ih h2 (by omega) (by omega) v h' hv')
    · have : v = y := by omega
      subst this
      exact List.mem_cons_self
/-- One that is in stays: nothing is put in. -/
theorem takeI_in {p : Int} {l : List Int} {x : Int} (h : riseB p l = true) (hx : x ∈ l) : takeI l x = l := by
  induction l generalizing p with
  | nil => cases hx
  | cons y r ih =>
    obtain ⟨h0, h1, h2⟩ := riseB_cons h
    unfold takeI
    rcases List.mem_cons.1 hx with rfl | hx
    · rw [if_neg (by omega), if_pos rfl]
    · have := (riseB_mem h2 x hx).1
      rw [if_pos this, ih h2 hx]
theorem takeI_out {l : List Int} {x : Int} (hx : x ∉ l) : takeI l x = l.take (cntI l x) ++ x :: l.drop (cntI l x) := by
  rw [takeI_form, if_neg]
  intro h
  exact hx (List.mem_of_getElem? h)
theorem takeI_len (l : List Int) (x : Int) : l.length ≤ (takeI l x).length ∧ (takeI l x).length ≤ l.length + 1 := by
  induction l with
  | nil => simp [takeI]
  | cons y r ih =>
    unfold takeI
    split
    · simp; omega
    split
    · simp
    · simp
theorem nextF_step (l : List Int) (f : Nat) (a : Int) : nextF l (f + 1) a = if (a + 1) % 252 ∈ l then nextF l f ((a + 1) % 252) else (a + 1) % 252 := rfl
theorem beq_flip (a b : Int) : (a == b) = decide (b = a) := by
  rcases Decidable.em (a = b) with h | h
  · subst h; simp
  · rw [decide_eq_false (fun e => h e.symm)]; simpa using h
/-- What nextFree answers. -/
def freeI (l : List Int) (a : Int) : Int := if 251 < l.length then 254 else nextI l a

set_option maxRecDepth 100000 in
set_option maxHeartbeats 4000000 in
theorem nextFree_any (a : Option Addr) (cap : Nat) (l : List Int) (x : Int) (w : World) (h : NumsIn w a l) (hlen : l.length ≤ 1048576) (hs : riseB (-1) l = true) (hx : 0 ≤ x ∧ x ≤ 251) :
    Calls Try.prog 111 #[.slice a l.length cap, .int .i64 x] w fun e w' => e = .returned (.int .i64 (freeI l x)) ∧ w = w' := by
  have HB := fun y => Lib.hid (search_any a cap l (-1) y w h hlen hs)
  have HF := Lib.hid (show ∀ y : Int, 0 ≤ y → y ≤ 251 → y ∉ l → ¬ 251 < l.length from fun y h0 h1 hy hl => hy (riseB_full hs (by omega) (by omega) y (by omega) h1))
  have HG := Lib.hid (show (∀ y : Int, 0 ≤ y → y ≤ 251 → y ∈ l) → 251 < l.length from fun hall => by
    have := riseB_all hs (by omega) (fun v hv hv' => hall v (by omega) hv')
    omega)
  obtain ⟨V, hV⟩ : ∃ V, freeI l x = V := ⟨_, rfl⟩
  have HV := Lib.hid hV
  rw [hV]
  clear hV hs h hlen
  obtain ⟨N, hN⟩ : ∃ N, l.length = N := ⟨_, rfl⟩
  have HNl := Lib.hid hN
  rw [hN] at HB HF HG ⊢
  clear hN
  go_enter Try.func111, Try.ntmps111
  go_wp2_with fail
  go_loopw [9] (fun i wr => ∃ k : Nat, i = .int .i64 (k : Int) ∧ k ≤ 252 ∧ nextI l x = nextF l (252 - k) ((x + k) % 252) ∧ (∀ j : Nat, j < k → (x + 1 + j) % 252 ∈ l) ∧ w = wr) (fun i _ => 252 - (intOf i).toNat)
  case atStart => exact ⟨0, rfl, by omega, by rw [show (x + ((0 : Nat) : Int)) % 252 = x by omega]; rfl, fun j hj => absurd hj (by omega), rfl⟩
  case round =>
    obtain ⟨k, rfl, hk, hn, hin, rfl⟩ := hrel
    have HN := Lib.hid hn
    have HIn := Lib.hid hin
    clear hn hin
    by_cases hkn : k < 252
    · have hlt : (k : Int) < 252 := by omega
      obtain ⟨y, hy⟩ : ∃ y, (x + 1 + (k : Int)) % 252 = y := ⟨_, rfl⟩
      have hy0 : 0 ≤ y ∧ y ≤ 251 := by omega
      have HY := Lib.hid hy
      have hw1 : IntKind.i64.wrap (x + 1) = x + 1 := IntWalk.i64_in _ (by omega)
      have hw2 : IntKind.i64.wrap (x + 1 + (k : Int)) = x + 1 + (k : Int) := IntWalk.i64_in _ (by omega)
      have hw3 : (x + 1 + (k : Int)).tmod 252 = y := by rw [Int.tmod_eq_emod_of_nonneg (by omega)]; exact hy
      have hw4 : IntKind.i64.wrap y = y := IntWalk.i64_in _ (by omega)
      have hw5 : IntKind.i64.wrap ((k : Int) + 1) = (k : Int) + 1 := IntWalk.i64_in _ (by omega)
      have HS := Lib.hid (show nextI l x = if y ∈ l then nextF l (251 - k) y else y by
        rw [HN.out, show 252 - k = (251 - k) + 1 by omega, nextF_step, show ((x + (k : Int)) % 252 + 1) % 252 = y by omega])
      clear hy
      have HBy := Lib.hid (HB y).out
      rcases hd : decide (y ∈ l)
      · have hm : y ∉ l := by simpa using hd
        have HO := Lib.hid (show V = y by
          rw [← HV.out]
          unfold freeI
          rw [HNl.out, if_neg (HF.out y hy0.1 hy0.2 hm), HS.out, if_neg hm])
        rw [hd] at HBy
        clear hd hm
        go_wp2_with fail
        refine HBy.out.mono ?_
        rintro e w' ⟨rfl, rfl⟩
        go_wp2_with fail
        go_ret
        exact ⟨by rw [HO.out]; rfl, rfl⟩
      · have hm : y ∈ l := by simpa using hd
        rw [hd] at HBy
        have HIn2 := Lib.hid (show ∀ j : Nat, j < k + 1 → (x + 1 + j) % 252 ∈ l from fun j hj => by
          rcases Nat.lt_or_ge j k with h | h
          · exact HIn.out j h
          · obtain rfl : j = k := by omega
            rw [HY.out]
            exact hm)
        have HN2 := Lib.hid (show nextI l x = nextF l (252 - (k + 1)) ((x + ((k + 1 : Nat) : Int)) % 252) by
          rw [HS.out, if_pos hm, show 251 - k = 252 - (k + 1) by omega]
          congr 1
          have := HY.out
          omega)
        clear hd hm
        go_wp2_with fail
        refine HBy.out.mono ?_
        rintro e w' ⟨rfl, rfl⟩
        go_wp2_with fail
        go_roundw
        case rel => exact ⟨k + 1, by go_num, by omega, HN2.out, HIn2.out, by first | rfl | trivial⟩
        case measure => simp [intOf]; omega
    · obtain rfl : k = 252 := by omega
      have HO := Lib.hid (show V = 254 by
        rw [← HV.out]
        unfold freeI
        rw [HNl.out, if_pos]
        refine HG.out fun y h0 h1 => ?_
        have := HIn.out ((y - x - 1) % 252).toNat (by omega)
        rwa [show (x + 1 + ((((y - x - 1) % 252).toNat : Nat) : Int)) % 252 = y by omega] at this)
      go_wp2_with fail
      go_ret
      exact ⟨by rw [HO.out]; rfl, rfl⟩
set_option maxRecDepth 100000 in
set_option maxHeartbeats 4000000 in
theorem l05Next_any (a : Option Addr) (cap : Nat) (l : List Int) (x : Int) (w : World) (h : NumsIn w a l) (hlen : l.length ≤ 251) (hs : riseB (-1) l = true) (hx : 0 ≤ x ∧ x ≤ 251) :
    Calls Try.prog 114 #[.slice a l.length cap, .int .i64 x] w fun e w' => e = .returned (.int .i64 (nextI l x)) ∧ Below w.heap.size w w' := by
  obtain ⟨d, hd, hfree⟩ : ∃ d : Nat, d < 252 ∧ (x + 1 + (d : Int)) % 252 ∉ l := by
    obtain ⟨v, v0, v1, hv⟩ := free_one hs hlen
    refine ⟨((v - x - 1) % 252).toNat, by omega, ?_⟩
    rwa [show (x + 1 + ((((v - x - 1) % 252).toNat : Nat) : Int)) % 252 = v by omega]
  have HFr := Lib.hid hfree
  have HI := Lib.hid h
  obtain ⟨V, hV⟩ : ∃ V, nextI l x = V := ⟨_, rfl⟩
  have HV := Lib.hid hV
  rw [hV]
  clear hV hs h hfree
  obtain ⟨N, hN⟩ : ∃ N, l.length = N := ⟨_, rfl⟩
  have HNl := Lib.hid hN
  rw [hN] at hlen ⊢
  clear hN
  go_enter Try.func114, Try.ntmps114
  go_wp2_with fail
  go_loopw [1] (fun i wr => ∃ (k : Nat) (y : Int), i = .int .i64 y ∧ y = (x + k) % 252 ∧ k ≤ d ∧ V = nextF l (252 - k) y ∧ Below w.heap.size w wr) (fun i _ => (d + 1) - ((intOf i - x) % 252).toNat)
  case atStart => exact ⟨0, x, rfl, by omega, by omega, by rw [← HV.out]; rfl, Below.refl _ _⟩
  case round =>
    obtain ⟨k, y, rfl, hy, hk, hn, hb⟩ := hrel
    have HN := Lib.hid hn
    clear hn
    obtain ⟨z, hz⟩ : ∃ z, (y + 1) % 252 = z := ⟨_, rfl⟩
    have hy0 : 0 ≤ y ∧ y ≤ 251 := by omega
    have hz0 : 0 ≤ z ∧ z ≤ 251 := by omega
    have hw1 : IntKind.i64.wrap (y + 1) = y + 1 := IntWalk.i64_in _ (by omega)
    have hw3 : (y + 1).tmod 252 = z := by rw [Int.tmod_eq_emod_of_nonneg (by omega)]; exact hz
    have hw4 : IntKind.i64.wrap z = z := IntWalk.i64_in _ (by omega)
    have HS := Lib.hid (show V = if z ∈ l then nextF l (251 - k) z else z by
      rw [HN.out, show 252 - k = (251 - k) + 1 by omega, nextF_step, hz])
    have hzk : z = (x + ((k + 1 : Nat) : Int)) % 252 := by omega
    have HZ := Lib.hid hzk
    have HYk := Lib.hid hy
    have HKd := Lib.hid (show z ∈ l → k < d from fun hm => by
      rcases Nat.lt_or_ge k d with h | h
      · exact h
      · obtain rfl : k = d := by omega
        exact absurd (by rw [show (x + 1 + (k : Int)) % 252 = z by omega]; exact hm) HFr.out)
    have HB := Lib.hid hb
    clear hz hzk hy HN hb
    go_wp2_with fail
    go_loopw [5, 6] (fun t i wi => ∃ m : Nat, i = .int .i64 (m : Int) ∧ t = .bool (decide (z ∈ l.take m)) ∧ m ≤ N ∧ Below w.heap.size w wi) (fun _ i _ => N - (intOf i).toNat)
    case atStart => exact ⟨0, rfl, by simp, by omega, HB.out⟩
    case round =>
      obtain ⟨m, rfl, rfl, hm, hbi⟩ := hrel
      by_cases hmn : m < N
      · have hml : m < l.length := by have := HNl.out; omega
        obtain ⟨b, o, rfl, hlt, hc⟩ := HI.out.at (by omega)
        have d0 := (hbi.cell (p := ⟨b, _, none⟩) hlt).trans (hc m _ (numAt_some hml))
        have hi1 : (0 : Int) ≤ (m : Int) := by omega
        have hi2 : (m : Int) < (N : Int) := by omega
        have HT := Lib.hid (show decide (z ∈ l.take (m + 1)) = (decide (z ∈ l.take m) || (numAt l m == z)) by
          rw [show (numAt l m == z) = decide (z = numAt l m) from beq_flip _ _, List.take_add_one, numAt_some hml]
          simp)
        clear hc
        generalize numAt l m = q at *
        rcases hbb : decide (z ∈ l.take m)
        · rw [hbb] at HT
          rcases hq : (q == z)
          · rw [hq] at HT
            go_wp2_with fail
            go_roundw
            case rel => exact ⟨m + 1, by go_num, by rw [HT.out]; rfl, by omega, hbi⟩
            case measure => simp [intOf]; omega
          · rw [hq] at HT
            go_wp2_with fail
            go_roundw
            case rel => exact ⟨m + 1, by go_num, by rw [HT.out]; rfl, by omega, hbi⟩
            case measure => simp [intOf]; omega
        · rw [hbb] at HT
          go_wp2_with fail
          go_roundw
          case rel => exact ⟨m + 1, by go_num, by rw [HT.out]; rfl, by omega, hbi⟩
          case measure => simp [intOf]; omega
      · obtain rfl : m = N := by omega
        have hlt : l.take m = l := List.take_of_length_le (by have := HNl.out; omega)
        rcases hd2 : decide (z ∈ l.take m)
        · have hnm : z ∉ l := by rw [hlt] at hd2; simpa using hd2
          have HO := Lib.hid (show V = z by rw [HS.out, if_neg hnm])
          clear hlt hnm
          go_wp2_with fail
          go_ret
          exact ⟨by rw [HO.out]; rfl, hbi⟩
        · have hnm : z ∈ l := by rw [hlt] at hd2; simpa using hd2
          have HO := Lib.hid (show V = nextF l (252 - (k + 1)) z by rw [HS.out, if_pos hnm, show 251 - k = 252 - (k + 1) by omega])
          have hkd := HKd.out hnm
          clear hlt hnm
          go_wp2_with fail
          go_roundw
          case rel => exact ⟨k + 1, z, rfl, HZ.out, by omega, HO.out, hbi⟩
          case measure =>
            have h1 := HZ.out
            have h2 := HYk.out
            simp [intOf]
            omega
theorem if8_no {α : Type} {A B : α} {c0 c1 c2 c3 c4 c5 c6 c7 : Prop} [Decidable c0] [Decidable c1] [Decidable c2] [Decidable c3] [Decidable c4] [Decidable c5] [Decidable c6] [Decidable c7] (h : ¬ (c0 ∧ c1 ∧ c2 ∧ c3 ∧ c4 ∧ c5 ∧ c6 ∧ c7)) : (if c0 then (if c1 then (if c2 then (if c3 then (if c4 then (if c5 then (if c6 then (if c7 then A else B) else B) else B) else B) else B) else B) else B) else B) = B := by
  repeat' split
  all_goals first | rfl | exact absurd ⟨by assumption, by assumption, by assumption, by assumption, by assumption, by assumption, by assumption, by assumption⟩ h
set_option maxRecDepth 100000 in
theorem wpList_eql_nm {ops : Array Oper} {rest : List Oper} {o : Oper} {a : Act} {w : World} {Q : Exit → Act → World → Prop} (hgd : Region.wanted o (yielded ops a.tmps) = true) (x y : Operand) (tt : TypeId)
    (ho : o.op = .binOp .eql 24 x y tt) (n0 n1 n2 n3 n4 n5 n6 m0 m1 m2 m3 m4 m5 m6 : Int) (n7 m7 : Bool)
    (hx : a.eval x = .agg #[.int .i64 n0, .int .i64 n1, .int .i64 n2, .int .i64 n3, .int .i64 n4, .int .i64 n5, .int .i64 n6, .bool n7]) (hy : a.eval y = .agg #[.int .i64 m0, .int .i64 m1, .int .i64 m2, .int .i64 m3, .int .i64 m4, .int .i64 m5, .int .i64 m6, .bool m7])
    (b : Bool) (hb : b = decide (n0 = m0 ∧ n1 = m1 ∧ n2 = m2 ∧ n3 = m3 ∧ n4 = m4 ∧ n5 = m5 ∧ n6 = m6 ∧ n7 = m7))
    (h : wpList Try.prog ops Q rest (a.put o.dst (.bool b)) w) : wpList Try.prog ops Q (o :: rest) a w :=
  BigFrame.wpList_want hgd fun K hK => by
    have hk := hK _ _ h
    unfold Oper.wp execOp
    rw [ho]
    dsimp only
    rw [hx, hy]
    cases b
    · have hn : ¬ (n0 = m0 ∧ n1 = m1 ∧ n2 = m2 ∧ n3 = m3 ∧ n4 = m4 ∧ n5 = m5 ∧ n6 = m6 ∧ n7 = m7) := fun q => by
        rw [decide_eq_true q] at hb
        cases hb
      simp [go_sem]
      rw [if8_no hn]
      exact hk
    · have hn : n0 = m0 ∧ n1 = m1 ∧ n2 = m2 ∧ n3 = m3 ∧ n4 = m4 ∧ n5 = m5 ∧ n6 = m6 ∧ n7 = m7 := of_decide_eq_true hb.symm
      obtain ⟨rfl, rfl, rfl, rfl, rfl, rfl, rfl, rfl⟩ := hn
      simp [go_sem]
      exact hk
end Go.Proofs.Ytdhmcepnmbchkaa
