/- Bits put into a text: the program's. Nothing that was there is written. -/
import Derived.Test.YtanijfmfjabmfaaBitsPut2
import Derived.Test.YtanijfmfjabmfaaStep
import Derived.Laws.IdiomCopy
import Derived.Deep.RegionLaw
namespace Go.Proofs.Ytanijfmfjabmfaa
open Go.RowKit
set_option linter.unusedVariables false

theorem splice_at {α : Type} (l C : List α) (k j : Nat) (hk : k + C.length ≤ l.length) : (splice l k C)[j]? = if k ≤ j ∧ j < k + C.length then C[j - k]? else l[j]? := by
  have hlt : (l.take k).length = k := by rw [List.length_take]; omega
  unfold splice
  by_cases hin : k ≤ j ∧ j < k + C.length
  · rw [if_pos hin, List.getElem?_append_right (by omega), hlt, List.getElem?_append_left (by omega)]
  · rw [if_neg hin]
    rcases Nat.lt_or_ge j k with h | h
    · rw [List.getElem?_append_left (by omega), List.getElem?_take, if_pos h]
    · rw [List.getElem?_append_right (by omega), hlt, List.getElem?_append_right (by omega), List.getElem?_drop]
      congr 1
      omega
theorem BytesIn.get {u : World} {g : Nat} {l : List UInt8} (h : BytesIn u g l) {j : Nat} {x : UInt8} (hj : l[j]? = some x) : u.cell? ⟨g, j, none⟩ = some (.int .u8 (x.toNat : Int)) ∧ u.frozen? ⟨g, j, none⟩ = false := by
  obtain ⟨h1, h2⟩ := List.getElem?_eq_some_iff.1 hj
  have := h j h1
  rwa [h2] at this
theorem BytesIn.of_get {u : World} {g : Nat} {l : List UInt8} (h : ∀ j x, l[j]? = some x → u.cell? ⟨g, j, none⟩ = some (.int .u8 (x.toNat : Int)) ∧ u.frozen? ⟨g, j, none⟩ = false) : BytesIn u g l :=
  fun j hj => h j _ (List.getElem?_eq_getElem hj)
theorem BytesIn.setCells {u : World} {g : Nat} {l C : List UInt8} (h : BytesIn u g l) (k : Nat) (hk : k + C.length ≤ l.length) : BytesIn (u.setCells g k (bcells C)) g (splice l k C) := by
  refine BytesIn.of_get fun j x hj => ?_
  rw [splice_at l C k j hk] at hj
  rw [World.frozen?_setCells]
  by_cases hin : k ≤ j ∧ j < k + C.length
  · rw [if_pos hin] at hj
    refine ⟨?_, (h j (by omega)).2⟩
    have h1 := World.cell?_setCells_in g (bcells C) k u (fun i hi => by
      rw [bcells_length] at hi
      rw [(h (k + i) (by omega)).1]
      rfl) (j - k) (by rw [bcells_length]; omega)
    rw [show k + (j - k) = j by omega] at h1
    rw [h1, ← List.getElem?_eq_getElem]
    simp [bcells, hj]
  · rw [if_neg hin] at hj
    rw [World.cell?_setCells_out g (bcells C) k u _ (fun _ _ => by rw [bcells_length]; show j < k ∨ k + C.length ≤ j; omega)]
    exact h.get hj
theorem splice_put (f : Nat → Nat) (l : List UInt8) {F m : Nat} (h : F + m ≤ l.length) (hout : ∀ i, (i < 8 * F ∨ 8 * (F + m) ≤ i) → f i = bitL l i) :
    splice l F (putB (fun j => f (8 * F + j)) m) = putB f l.length := by
  have hshift : ∀ k, numOf (fun j => f (8 * F + j)) (8 * k) 8 = numOf f (8 * (F + k)) 8 := by
    intro k
    have : ∀ w a, numOf (fun j => f (8 * F + j)) a w = numOf f (8 * F + a) w := by
      intro w
      induction w with
      | zero => intro a; rfl
      | succ w ih =>
        intro a
        show f (8 * F + a) + 2 * numOf (fun j => f (8 * F + j)) (a + 1) w = f (8 * F + a) + 2 * numOf f (8 * F + a + 1) w
        rw [ih]
        rfl
    rw [this, show 8 * F + 8 * k = 8 * (F + k) by omega]
  have hpl := putB_length (fun j => f (8 * F + j)) m
  apply List.ext_getElem?
  intro j
  rw [splice_at l _ F j (by rw [hpl]; exact h), hpl]
  rcases Nat.lt_or_ge j l.length with hj | hj
  · rw [putB_get hj]
    by_cases hin : F ≤ j ∧ j < F + m
    · rw [if_pos hin, putB_get (by omega), hshift, show F + (j - F) = j by omega]
    · have e : numOf f (8 * j) 8 = (l[j]?.getD 0).toNat := by
        rw [← numOf_byte]
        exact numOf_congr 8 _ fun i h1 h2 => hout i (by omega)
      rw [if_neg hin, e, List.getElem?_eq_getElem hj]
      simp
  · rw [if_neg (by omega), List.getElem?_eq_none hj, List.getElem?_eq_none (by rw [putB_length]; exact hj)]
section
variable {P : Program} {ops : Array Oper} {rest : List Oper} {o : Oper} {a : Act} {w : World} {Q : Exit → Act → World → Prop}
/-- copy of bytes into bytes that may be written, as one step of a region that draws its order. -/
theorem step_copy_bytes {K : Act → World → Prop} {E : Prop} (hgd : o.guard = none) (d s : Operand) (dT sT : TypeId) (ho : o.op = .call { callee := .builtin .copy, args := #[d, s], argTypes := #[dT, sT] })
    (elem : TypeId) (hu : P.underlying dT = some (.slice elem)) (hsz : (P.info? elem).map (·.size) = some 1) (g off dLen dCap g2 sLen sCap : Nat) (hd : a.eval d = .slice (some ⟨g, off, none⟩) dLen dCap) (hs : a.eval s = .slice (some ⟨g2, 0, none⟩) sLen sCap)
    (l C : List UInt8) (hg : BytesIn w g l) (hC : BytesIn w g2 C) (hn : C.length = sLen) (hle : sLen ≤ dLen) (hfit : off + sLen ≤ l.length)
    (h : ∀ w', BytesIn w' g (splice l off C) → Out g (g + 1) w w' → K (a.put o.dst (goInt C.length)) w') :
    if Region.wanted o (yielded ops a.tmps) = true then Oper.wp P o a w K Q else E := by
  have hw : Region.wanted o (yielded ops a.tmps) = true := by simp [Region.wanted, hgd]
  rw [if_pos hw]
  have hbl := bcells_length C
  have hrun := run_copy_cells (P := P) w dT sT o.type elem g off dLen dCap ⟨g2, 0, none⟩ sLen sCap (bcells C) hu hsz (by rw [hbl, hn]; exact (Nat.min_eq_left hle).symm)
    (fun j v hj => by
      have hj2 : j < C.length := by
        have := (List.getElem?_eq_some_iff.1 hj).1
        rwa [hbl] at this
      have e : (⟨g2, 0, none⟩ : Addr).add j = ⟨g2, j, none⟩ := by unfold Addr.add; split <;> simp_all
      rw [e, (hC j hj2).1, ← hj]
      simp [bcells, hj2])
    (fun j hj => by rw [hbl] at hj; rw [(hg (off + j) (by omega)).1]; rfl)
    (fun j hj => by rw [hbl] at hj; exact (hg (off + j) (by omega)).2) (bcells_one C)
  unfold Oper.wp
  simp [execOp, ho, resolve, invoke, builtin, hd, hs, hrun, Result.andThen, hbl]
  exact h _ (hg.setCells off (by omega)) (out_setCells g _ w off)
end
/-- The closure that asks for the bits of n where these stand. -/
def withClo (B : Nat) : Value := .func (.func 212) #[] #[.pointer (some ⟨B + 1, 0, none⟩), .pointer (some ⟨B + 2, 0, none⟩), .pointer (some ⟨B + 3, 0, none⟩), .pointer (some ⟨B, 0, none⟩)]
theorem bitsWith_bw (R : Nat) (s : ByteArray) (a w n : Nat) (W : World) (hR : R < W.heap.size) (hR2 : W.heap[R]? = some (.cells #[.string s] 9 (0, 0))) :
    Calls Try.prog 201 #[bitClo R, .int .i64 (a : Int), .int .i64 (w : Int), .int .i64 (n : Int)] W fun e W' => e = .returned (withClo W.heap.size) ∧ Bw W' W.heap.size s a w n ∧ Below W.heap.size W W' ∧ W.heap.size + 3 < W'.heap.size := by
  refine (bitsWith_any R a w n W).mono ?_
  rintro e W' ⟨o0, o1, o2, o3, h0, h1, h2, h3, he, hw⟩
  have e0 := heap_alloc_new W o0
  have z0 : (W.alloc o0).heap.size = W.heap.size + 1 := by simp
  have b0 := Below.heap_alloc W o0 R hR
  have l0 : Below W.heap.size W (W.alloc o0) := (Below.refl _ _).alloc (Nat.le_refl _) _
  generalize W.alloc o0 = W1 at *
  have e1 := heap_alloc_new W1 o1
  have z1 : (W1.alloc o1).heap.size = W1.heap.size + 1 := by simp
  have b1 : ∀ k, k < W1.heap.size → _ := fun k hk => Below.heap_alloc W1 o1 k hk
  have l1 : Below W.heap.size W (W1.alloc o1) := l0.alloc l0.size _
  generalize W1.alloc o1 = W2 at *
  have e2 := heap_alloc_new W2 o2
  have z2 : (W2.alloc o2).heap.size = W2.heap.size + 1 := by simp
  have b2 : ∀ k, k < W2.heap.size → _ := fun k hk => Below.heap_alloc W2 o2 k hk
  have l2 : Below W.heap.size W (W2.alloc o2) := l1.alloc l1.size _
  generalize W2.alloc o2 = W3 at *
  have e3 := heap_alloc_new W3 o3
  have z3 : (W3.alloc o3).heap.size = W3.heap.size + 1 := by simp
  have b3 : ∀ k, k < W3.heap.size → _ := fun k hk => Below.heap_alloc W3 o3 k hk
  have l3 : Below W.heap.size W (W3.alloc o3) := l2.alloc l2.size _
  rw [← hw] at e3 z3 b3 l3
  rw [z0] at e1
  rw [z1, z0] at e2
  rw [z2, z1, z0] at e3
  subst h0 h1 h2 h3
  refine ⟨he, ⟨⟨R, by omega, ?_, ?_⟩, ?_, ?_, ?_⟩, l3, by omega⟩
  · rw [b3 R (by omega), b2 R (by omega), b1 R (by omega), b0]; exact hR2
  · rw [b3 _ (by omega), b2 _ (by omega), b1 _ (by omega)]; exact e0
  · rw [b3 _ (by omega), b2 _ (by omega)]; exact e1
  · rw [b3 _ (by omega)]; exact e2
  · exact e3
theorem bitNums_succ (f : Nat → Nat) (n : Nat) : bitNums f (n + 1) = bitNums f n ++ [((f n : Nat) : Int)] := by
  unfold bitNums
  rw [List.range_succ, List.map_append]
  rfl
theorem Put3.info : (Try.prog.info? 2).map (fun i => (i.zero, i.size, i.bytes)) = some (some (.int .i64 0), 1, 8) := by kernel_rfl
theorem Put3.one8 : (Try.prog.info? 5).map (·.size) = some 1 := by kernel_rfl
theorem grown_below {u u' : World} {base T n B : Nat} {v : Value} {xs : List Value} (h : u.ownsRow base T 1 v n xs) (hg : u.grownBy u' v.ownBlock) {W : World} (hB : Below B W u) (hb : B ≤ base) (hs : B ≤ u.heap.size) : Below B W u' :=
  hB.grown hg hs fun k hk => Nat.le_trans hb (World.ownsRow.lt h k hk).1
set_option maxRecDepth 100000 in
set_option maxHeartbeats 4000000 in
theorem implPutBits_on (s : ByteArray) (a w n : Nat) (W : World) (hs : s.size ≤ 8000) (ha : a ≤ 1800) (hw1 : 1 ≤ w) (hw : w ≤ 32) (hn : inB 0 (powI (w : Int) - 1) (n : Int) = true) (hh : hasB s (a : Int) (w : Int) = true) (hin : a + w ≤ 8 * s.size) :
    Calls Try.prog 173 #[.string s, .int .i64 (a : Int), .int .i64 (w : Int), .int .i64 (n : Int)] W fun e W' => e = .returned (.string ⟨(putB (putBit s.data.toList a w n) s.size).toArray⟩) ∧ Below W.heap.size W W' := by
  obtain ⟨i0, hi, hz0, hz1, hz2⟩ := info_parts Put3.info
  have hs' : s.size ≤ maxLen := by unfold maxLen; omega
  have hd : decide (8000 < (s.size : Int)) = false := by simp; omega
  have HI := fun W => Lib.hid (implHasBits_any s a w W (by omega))
  have hp1 := powI_pos (w : Int)
  have hp2 := powI_le (w := (w : Int)) (by omega)
  have hn2 := inB_of hn
  have hsh : wrap64 (2 ^ w) = powI (w : Int) := by
    have h1 := shl_pow (w : Int) (by omega) (by omega)
    have hm : min (w : Int).toNat 64 = w := by omega
    rw [hm, Int.one_mul] at h1
    exact (IntWalk.i64_left _).symm.trans h1
  generalize powI (w : Int) = p at *
  have hn3 : n < 4294967296 := by omega
  obtain ⟨F, hF⟩ : ∃ F, a / 8 = F := ⟨_, rfl⟩
  obtain ⟨L, hL⟩ : ∃ L, (a + w - 1) / 8 = L := ⟨_, rfl⟩
  have hFL : F ≤ L := by omega
  have hLs : L < s.size := by omega
  have hFi : (a : Int) / 8 = (F : Int) := by omega
  have hLi : ((a : Int) + (w : Int) - 1) / 8 = (L : Int) := by omega
  have hL8 : L < 8000 := by omega
  have HFL := Lib.hid (And.intro hF hL)
  have hp64 : wrap64 (p - 1) = p - 1 := IntWalk.wrap64_in _ (by omega)
  clear hF hL hn2
  go_enter Try.func173, Try.ntmps173
  go_wp2_with (first
      | (go_at_call 123; refine (tooLong_any _ _ hs').mono ?_; rintro e w' ⟨rfl, rfl⟩)
      | (go_at_call 175; refine (HI _).out.mono ?_; rintro e w1 ⟨rfl, hb1⟩)
      | (go_at_call 81; refine (from0_any _ _ _).mono ?_; rintro e w' ⟨rfl, rfl⟩))
  refine (bitsOf_any s _).mono ?_
  rintro e U ⟨rfl, rfl⟩
  have HR := Lib.hid (heap_alloc_new w1 (.cells #[.string s] 9))
  have hU : Below W.heap.size W (w1.alloc (.cells #[.string s] 9)) := hb1.alloc hb1.size _
  have hl : w1.heap.size < (w1.alloc (.cells #[.string s] 9)).heap.size := by simp
  generalize w1.alloc (.cells #[.string s] 9) = U at *
  generalize w1.heap.size = R at *
  have HU := Lib.hid hU
  clear hU hb1 hsh hp64 hn
  go_wp2_with fail
  refine (bitsWith_bw R s a w n U hl HR.out).mono ?_
  rintro e U2 ⟨rfl, hbw, hb2, hz2'⟩
  obtain ⟨B, eB⟩ : ∃ B, U.heap.size = B := ⟨_, rfl⟩
  rw [eB] at hbw hz2' ⊢
  have HBW := Lib.hid hbw
  have HU2 := Lib.hid (HU.out.trans (hb2.mono HU.out.size))
  unfold withClo
  clear hbw hb2
  go_wp2_with fail
  rw [hLi]
  obtain ⟨m, hm⟩ : ∃ m, L - F + 1 = m := ⟨_, rfl⟩
  have hm6 : m ≤ 6 := by have := HFL.out; omega
  obtain ⟨g, hg⟩ : ∃ g, (fun j => putBit s.data.toList a w n (8 * F + j)) = g := ⟨_, rfl⟩
  have hgl : ∀ j, g j < 2 := fun j => by rw [← hg]; exact putBit_lt _ _ _ _ _
  have HC := fun (k : Nat) (W : World) (h : Bw W B s a w n) (hk : 8 * F + k < 8 * s.size) => (bitsWith1_any B s a w n (8 * F + k) W h hs ha hw1 hw hn3 hk)
  have HC2 : ∀ (k : Nat) (W : World), Bw W B s a w n → 8 * F + k < 8 * s.size → (Calls Try.prog 212 #[.int .i64 ((8 * F + k : Nat) : Int), .pointer (some ⟨B + 1, 0, none⟩), .pointer (some ⟨B + 2, 0, none⟩), .pointer (some ⟨B + 3, 0, none⟩), .pointer (some ⟨B, 0, none⟩)] W fun e W' => e = .returned (.int .i64 ((g k : Nat) : Int)) ∧ W = W') := by
    rw [← hg]
    exact HC
  clear HC
  have HG := Lib.hid hg
  have HGL := Lib.hid hgl
  clear hg hgl
  have hZ : B + 3 < U2.heap.size := hz2'
  go_loopw [12, 13] (fun v pl wr => ∃ k : Nat, pl = .int .i64 ((8 * F + k : Nat) : Int) ∧ k ≤ 8 * m ∧ wr.ownsRow U2.heap.size 2 1 v k (ncells (bitNums g k)) ∧ Below U2.heap.size U2 wr) (fun _ pl _ => 8 * F + 8 * m - (intOf pl).toNat)
  case atStart => exact ⟨0, by go_num, Nat.zero_le _, World.ownsRow_nil _ _ _ _, Below.refl _ _⟩
  case round =>
    obtain ⟨k, rfl, hk, hown, hb⟩ := hrel
    have HOW := Lib.hid hown
    have HB := Lib.hid hb
    clear hown hb
    have hlm : 8 * (L + 1) = 8 * F + 8 * m := by omega
    by_cases hkm : k < 8 * m
    · have hi8 : 8 * F + k < 8 * s.size := by omega
      have HBWr := HBW.out.below HB.out hZ (fun R hR => hR)
      have HCk := Lib.hid (HC2 k wr HBWr hi8)
      have HNS := Lib.hid (bitNums_succ g k)
      obtain ⟨c, hc⟩ : ∃ c, g k = c := ⟨_, rfl⟩
      rw [hc] at HCk HNS
      clear hc
      obtain ⟨i, hxi⟩ : ∃ i, 8 * F + k = i := ⟨_, rfl⟩
      rw [hxi] at HCk hi8 ⊢
      have HXI := Lib.hid hxi
      have hlt : (i : Int) < 8 * ((L : Int) + 1) := by omega
      have hi64 : i < 64000 := by omega
      have hNI : NumsIn (wr.alloc (.cells #[.int .i64 (c : Int)] 2)) (some ⟨wr.heap.size, 0, none⟩) [(c : Int)] := .inr ⟨wr.heap.size, 0, rfl, by simp, fun j x hj => by
        rcases j with _ | j
        · simp at hj
          subst hj
          exact cell_new1 _ _ _
        · simp at hj⟩
      have HNI := Lib.hid hNI
      clear hNI hxi HBWr
      go_wp2_with (first
        | (go_at_call 212; refine HCk.out.mono ?_; rintro e w' ⟨rfl, rfl⟩)
        | (at_builtin; refine wpList_append_nums rfl (.tmp 54) (.tmp 58) 25 rfl U2.heap.size 2 i0 (.int .i64 0) 8 Try.underlying25 hi hz0 hz1 hz2 rfl _ k (ncells (bitNums g k)) rfl (HOW.out.alloc _) (some ⟨wr.heap.size, 0, none⟩) 1 [(c : Int)] 1 rfl rfl HNI.out (by unfold maxLen; omega) (by omega) (by have := HB.out.size; simp; omega) ?_; intro v' w3 hown3 hgrow3; have HB3 := Lib.hid (grown_below (HOW.out.alloc (.cells #[.int .i64 (c : Int)] 2)) hgrow3 (HB.out.alloc HB.out.size _) (Nat.le_refl _) (by have := HB.out.size; simp; omega)); have HOW3 := Lib.hid hown3; clear hown3 hgrow3))
      go_roundw
      case rel =>
        refine ⟨k + 1, by rw [← HXI.out]; go_num, by omega, ?_, HB3.out⟩
        rw [HNS.out, ncells_append]
        exact HOW3.out
      case measure => first | (simp [intOf]; omega) | simp [intOf]
    · have hkm2 : k = 8 * m := by omega
      subst hkm2
      obtain ⟨i, hxi⟩ : ∃ i, 8 * F + 8 * m = i := ⟨_, rfl⟩
      rw [hxi] at hlm ⊢
      have hlt : ¬ ((i : Int) < 8 * ((L : Int) + 1)) := by omega
      go_wp2_with (refine wpList_bytes rfl (.tmp 60) 9 22 5 rfl Try.underlying9 Try.underlying22 Try.underlying5 s.data.toList (text_self s) (fun cap u hin2 hb hz hcap => ?_))
      have hl := HOW.out
      obtain ⟨gb, capb, rfl⟩ := Joins.ownsRow_form hl (by omega)
      have hgb := World.ownsRow.lt hl gb rfl
      have hcells : ∀ j, j < 8 * m → u.cell? ⟨gb, j, none⟩ = some (.int .i64 (g j : Int)) := fun j hj => by
        rw [hb.cell (p := ⟨gb, j, none⟩) hgb.2, World.ownsRow.cellAt hl j (by omega)]
        exact ncells_at _ _ _ (bitNums_get hj)
      have hub : gb < u.heap.size := Nat.lt_of_lt_of_le hgb.2 hb.size
      have HPk := fun (W' : World) (h : W'.heap = u.heap) => packed_any g HGL.out gb capb m W' (by omega) (by omega) (by rw [h]; exact hub) (fun j hj => (World.cell?_of_block (w := u) (w' := W') (a := ⟨gb, j, none⟩) (by rw [h])).trans (hcells j hj))
      have HPK := Lib.hid HPk
      have HIN := Lib.hid hin2
      have HBU := Lib.hid hb
      have HZU := Lib.hid hz
      have hFm : F + m ≤ s.size := by omega
      have hmF : m ≤ s.size - F := by omega
      have hcap' : s.size ≤ cap := hcap
      have hF1 : ¬ ((s.size : Int) < (F : Int)) := by omega
      have hF0 : (0 : Int) ≤ (F : Int) := by omega
      have hcF : ¬ cap = F := by omega
      have hF2 : (F : Int) ≤ (s.size : Int) := by omega
      have hF3 : (F : Int) ≤ (cap : Int) := by omega
      have HPL := Lib.hid (putB_length g m)
      clear HPk hcells hl hin2 hb hz hcap HOW HC2
      obtain ⟨Gw, eGw⟩ : ∃ Gw, wr.heap.size = Gw := ⟨_, rfl⟩
      rw [eGw] at HIN HBU HZU ⊢
      go_region_law (first
        | (refine step_copy_bytes rfl (.tmp 64) (.tmp 66) 22 22 rfl 5 Try.underlying22 Put3.one8 Gw F (s.size - F) (cap - F) Gp m m (by simp [Act.eval]) (by simp [Act.eval]) s.data.toList (putB g m) HIN4.out HINP.out HPL.out hmF hFm ?_; intro w5 hin5 ho5; have HIN5 := Lib.hid hin5; have HO5 := Lib.hid ho5; clear hin5 ho5)
        | (go_simp; go_at_call 203; refine (HPK.out u.drew rfl).mono ?_; rintro e w4 ⟨Gp, rfl, hGp, hGp2, hinp, h4⟩; have HIN4 := Lib.hid (HIN.out.drew.below h4 HZU.out); have HINP := Lib.hid hinp; have H4 := Lib.hid h4; clear hinp h4))
      all_goals
        have h1 : Below W.heap.size W wr := HU2.out.trans (HB.out.mono HU2.out.size)
        have h2 : Below W.heap.size W u := h1.trans (HBU.out.mono (by rw [← eGw]; exact h1.size))
        have h3 : Below W.heap.size W w4 := h2.drew.trans (H4.out.mono h2.size)
        have h5 : Below W.heap.size W w5 := HO5.out.below h3 (by rw [← eGw]; exact h1.size) h3.size
        have H5 := Lib.hid h5
        have hsz : s.data.toList.length = s.size := rfl
        have hspl := splice_put (putBit s.data.toList a w n) s.data.toList (F := F) (m := m) (by rw [hsz]; exact hFm) (fun i hi => putBit_out _ (by have := HFL.out; omega))
        have hgg := HG.out
        have hin5 := HIN5.out
        rw [← hgg, hspl, hsz] at hin5
        have hcv := hin5.conv (P := Try.prog) 22 9 5 Try.underlying22 Try.underlying5 Try.underlying9 s.size (putB_length _ _).symm cap
        clear h1 h2 h3 h5 hspl hgg hin5
        obtain ⟨O, hO⟩ : ∃ O, putB (putBit s.data.toList a w n) s.size = O := ⟨_, rfl⟩
        rw [hO] at hcv
        have HO := Lib.hid hO
        clear hO
        go_wp2_with fail
        go_ret
        exact ⟨by rw [HO.out]; rfl, H5.out⟩

set_option maxRecDepth 100000 in
set_option maxHeartbeats 2000000 in
theorem implPutBits_any (s : ByteArray) (a w n : Int) (W : World) (hs : s.size ≤ maxLen) :
    Calls Try.prog 173 #[.string s, .int .i64 a, .int .i64 w, .int .i64 n] W fun e W' => e = .returned (.string ⟨(putI s a w n).toArray⟩) ∧ Below W.heap.size W W' := by
  by_cases h : 8000 < s.size
  · have HO := Lib.hid (putI_big (a := a) (w := w) (n := n) h)
    go_enter Try.func173, Try.ntmps173
    go_wp2_with (go_at_call 123; refine (tooLong_any _ _ hs).mono ?_; rintro e w' ⟨rfl, rfl⟩)
    go_ret
    exact ⟨by rw [HO.out]; rfl, Below.refl _ _⟩
  have hd : decide (8000 < (s.size : Int)) = false := by simp; omega
  have hs8 : s.size ≤ 1000000 := by omega
  have HI := fun W => Lib.hid (implHasBits_any s a w W hs8)
  have hz8 : ByteArray.empty.size ≤ 1000000 := by decide
  have hee : ByteArray.empty.data.toList ++ s.data.toList = s.data.toList := List.nil_append _
  have HJ := fun W => Lib.hid (joined_any ByteArray.empty s W hz8 hs8)
  rw [hee] at HJ
  rcases Bool.eq_false_or_eq_true (hasB s a w) with h1 | h1
  · have hh := h1
    obtain ⟨x, y, rfl, rfl, k1, k2, k3, k4⟩ := bits_nat2 h1
    rcases Bool.eq_false_or_eq_true (inB 0 (powI (y : Int) - 1) n) with h2 | h2
    · have hin := inB_of h2
      obtain ⟨n, rfl⟩ := Int.eq_ofNat_of_zero_le hin.1
      rw [putI_on h h1 h2]
      exact implPutBits_on s x y n W (by omega) k1 k2 k3 h2 hh k4
    · have HO := Lib.hid (putI_off2 (a := (x : Int)) h h2)
      have hp1 := powI_pos (y : Int)
      have hp2 := powI_le (w := (y : Int)) (by omega)
      have hsh : wrap64 (2 ^ y) = powI (y : Int) := by
        have h1 := shl_pow (y : Int) (by omega) (by omega)
        have hm : min (y : Int).toNat 64 = y := by omega
        rw [hm, Int.one_mul] at h1
        exact (IntWalk.i64_left _).symm.trans h1
      generalize powI (y : Int) = p at *
      have hp64 : wrap64 (p - 1) = p - 1 := IntWalk.wrap64_in _ (by omega)
      go_enter Try.func173, Try.ntmps173
      go_wp2_with (first
        | (go_at_call 123; refine (tooLong_any _ _ hs).mono ?_; rintro e w' ⟨rfl, rfl⟩)
        | (go_at_call 175; refine (HI _).out.mono ?_; rintro e w1 ⟨rfl, hb1⟩)
        | (go_at_call 81; refine (from0_any _ _ _).mono ?_; rintro e w' ⟨rfl, rfl⟩)
        | (go_at_call 161; refine (HJ _).out.mono ?_; rintro e w2 ⟨rfl, hb2⟩))
      go_ret
      exact ⟨by rw [HO.out]; rfl, hb1.trans (hb2.mono hb1.size)⟩
  · have HO := Lib.hid (putI_off (n := n) h h1)
    go_enter Try.func173, Try.ntmps173
    go_wp2_with (first
      | (go_at_call 123; refine (tooLong_any _ _ hs).mono ?_; rintro e w' ⟨rfl, rfl⟩)
      | (go_at_call 175; refine (HI _).out.mono ?_; rintro e w1 ⟨rfl, hb1⟩)
      | (go_at_call 161; refine (HJ _).out.mono ?_; rintro e w2 ⟨rfl, hb2⟩))
    go_ret
    exact ⟨by rw [HO.out]; rfl, hb1.trans (hb2.mono hb1.size)⟩
end Go.Proofs.Ytanijfmfjabmfaa
