/- Bits put together to bytes, and asked by closures: the program's. Nothing that was there is written. -/
import Derived.Test.YtanijfmfjabmfaaBitsGet
import Derived.Test.YtanijfmfjabmfaaBitsPut
import Derived.Test.YtanijfmfjabmfaaNumsTo
import Derived.RegionTactic
import Derived.BigRegion
namespace Go.Proofs.Ytanijfmfjabmfaa
open Go.RowKit
set_option linter.unusedVariables false

/-- The first k bits alone. -/
def cutF (f : Nat → Nat) (k i : Nat) : Nat := if i < k then f i else 0
theorem cutF_lt {f : Nat → Nat} (hf : ∀ i, f i < 2) (k i : Nat) : cutF f k i < 2 := by
  unfold cutF
  split
  · exact hf i
  · omega
theorem numOf_zero {f : Nat → Nat} (w : Nat) : ∀ a, (∀ i, a ≤ i → f i = 0) → numOf f a w = 0 := by
  induction w with
  | zero => intro a h; rfl
  | succ w ih =>
    intro a h
    show f a + 2 * numOf f (a + 1) w = 0
    rw [h a (Nat.le_refl _), ih (a + 1) (fun i hi => h i (by omega))]
theorem numOf_few {f : Nat → Nat} (hf : ∀ i, f i < 2) (w : Nat) : ∀ a e, (∀ i, a + e ≤ i → f i = 0) → numOf f a w < 2 ^ e := by
  induction w with
  | zero => intro a e h; exact Nat.two_pow_pos e
  | succ w ih =>
    intro a e h
    rcases e with _ | e
    · rw [numOf_zero (w + 1) a (fun i hi => h i (by omega))]
      decide
    · show f a + 2 * numOf f (a + 1) w < _
      have h1 := hf a
      have h2 := ih (a + 1) e (fun i hi => h i (by omega))
      rw [Nat.pow_succ]
      omega
theorem cutF_same {f : Nat → Nat} {k i : Nat} (h : i ≠ k) : cutF f (k + 1) i = cutF f k i := by
  unfold cutF
  by_cases h1 : i < k
  · rw [if_pos h1, if_pos (by omega)]
  · rw [if_neg h1, if_neg (by omega)]
theorem numOf_cut (f : Nat → Nat) {k u : Nat} (hu : k / 8 = u) : numOf (cutF f (k + 1)) (8 * u) 8 = numOf (cutF f k) (8 * u) 8 + f k * 2 ^ (k % 8) := by
  obtain ⟨e, he⟩ : ∃ e, k % 8 = e := ⟨_, rfl⟩
  have e8 : 8 * u + e = k := by omega
  have h := numOf_set (cutF f k) (cutF f (k + 1)) 8 (8 * u) e (by omega) (fun i hi => cutF_same (by omega))
  have e1 : cutF f k k = 0 := by simp [cutF]
  have e2 : cutF f (k + 1) k = f k := by simp [cutF]
  rw [e8, e1, e2] at h
  rw [he]
  generalize numOf (cutF f (k + 1)) (8 * u) 8 = X at *
  generalize numOf (cutF f k) (8 * u) 8 = Y at *
  generalize f k * 2 ^ e = Z at *
  omega
theorem putB_cut (f : Nat → Nat) {k m : Nat} (h : k < 8 * m) :
    putB (cutF f (k + 1)) m = (putB (cutF f k) m).set (k / 8) (UInt8.ofNat (numOf (cutF f k) (8 * (k / 8)) 8 + f k * 2 ^ (k % 8))) := by
  have hq : k / 8 < m := by omega
  rw [← numOf_cut f rfl]
  apply List.ext_getElem?
  intro j
  rcases Nat.lt_or_ge j m with hj | hj
  · rw [putB_get hj, List.getElem?_set, putB_length]
    by_cases hkk : k / 8 = j
    · rw [if_pos hkk, if_pos hq, hkk]
    · rw [if_neg hkk, putB_get hj]
      congr 2
      exact numOf_congr 8 _ fun i h1 h2 => cutF_same (by omega)
  · rw [List.getElem?_eq_none (by rw [putB_length]; exact hj), List.getElem?_eq_none (by rw [List.length_set, putB_length]; exact hj)]
theorem putB_none (f : Nat → Nat) (m : Nat) : putB (cutF f 0) m = List.replicate m 0 := by
  apply List.ext_getElem?
  intro j
  rcases Nat.lt_or_ge j m with hj | hj
  · rw [putB_get hj, List.getElem?_replicate, if_pos hj, numOf_zero 8 _ (fun i _ => by simp [cutF])]
    rfl
  · rw [List.getElem?_eq_none (by rw [putB_length]; exact hj), List.getElem?_eq_none (by simpa using hj)]
theorem putB_all (f : Nat → Nat) (m : Nat) : putB (cutF f (8 * m)) m = putB f m := putB_congr fun i hi => by simp [cutF, hi]

theorem BytesIn.zeros {w : World} {base g m : Nat} {T : TypeId} (h : w.ownsRow base T 1 (.slice (some ⟨g, 0, none⟩) m m) m (madeCells (Value.int .u8 0).cells (m * 1)).toList) : BytesIn w g (List.replicate m 0) ∧ base ≤ g := by
  have e : (madeCells (Value.int .u8 0).cells (m * 1)).toList = List.replicate m (Value.int .u8 0) := by
    rw [show (Value.int .u8 0).cells = #[Value.int .u8 0] from rfl, toList_madeCells_one, Nat.mul_one]
  rw [e] at h
  refine ⟨fun j hj => ?_, ?_⟩
  · have hj' : j < m := by simpa using hj
    refine ⟨?_, (own_row1 h j hj').2⟩
    rw [World.ownsRow.cellAt h j (by omega), List.getElem?_replicate, if_pos hj']
    simp
  · exact (World.ownsRow.lt h g rfl).1

theorem Packed.info8 : (Try.prog.info? 5).map (fun i => (i.zero, i.size, i.bytes)) = some (some (.int .u8 0), 1, 1) := by kernel_rfl
/-- The numbers of m bytes' bits. -/
def bitNums (f : Nat → Nat) (n : Nat) : List Int := (List.range n).map fun i => (f i : Int)
theorem bitNums_length (f : Nat → Nat) (n : Nat) : (bitNums f n).length = n := by simp [bitNums]
theorem bitNums_get {f : Nat → Nat} {n i : Nat} (h : i < n) : (bitNums f n)[i]? = some ((f i : Nat) : Int) := by
  unfold bitNums
  rw [List.getElem?_map, List.getElem?_range h]
  rfl
set_option maxRecDepth 100000 in
set_option maxHeartbeats 4000000 in
theorem packed_any (f : Nat → Nat) (hf : ∀ i, f i < 2) (g cap m : Nat) (W : World) (hm : m ≤ 1000) (hm0 : 1 ≤ m) (hg : g < W.heap.size) (hc : ∀ i, i < 8 * m → W.cell? ⟨g, i, none⟩ = some (.int .i64 (f i : Int))) :
    Calls Try.prog 203 #[.slice (some ⟨g, 0, none⟩) (8 * m) cap] W fun e W' => ∃ G, e = .returned (.slice (some ⟨G, 0, none⟩) m m) ∧ W.heap.size ≤ G ∧ G < W'.heap.size ∧ BytesIn W' G (putB f m) ∧ Below W.heap.size W W' := by
  obtain ⟨i0, hi, hz0, hz1, hz2⟩ := info_parts Packed.info8
  have HF := Lib.hid hf
  have HC := Lib.hid hc
  clear hf hc
  have h8 : (8 * (m : Int)) / 8 = (m : Int) := by omega
  have h8b : ((8 * m : Nat) : Int) / 8 = (m : Int) := by omega
  go_enter Try.func203, Try.ntmps203
  go_wp2_with (at_make; refine wpList_make_full _ rfl (.tmp 8) (.tmp 8) 22 rfl W.heap.size 5 i0 (.int .u8 0) 1 Try.underlying22 hi hz0 hz1 .i64 .i64 (m : Int) (m : Int) m (by rfl) (by rfl) (by omega) (by omega) (by rw [hz2]; omega) (by unfold maxLen; omega) (Nat.le_refl _) ?_; intro w1 hown hgrow)
  obtain ⟨hz, _⟩ := BytesIn.zeros hown
  have hlt := own_lt1 hown
  have hb1 : Below W.heap.size W w1 := (Below.refl _ _).grown hgrow (Nat.le_refl _) (fun _ h => by cases h)
  rw [← putB_none f m] at hz
  have HZ := Lib.hid hz
  clear hz hown hgrow
  obtain ⟨G, eG⟩ : ∃ G, W.heap.size = G := ⟨_, rfl⟩
  have hgG : g < G := by omega
  rw [eG] at HZ hlt hb1 ⊢
  have HB1 := Lib.hid hb1
  clear hb1
  go_loopw [4, 5, 12] (fun _ _ j wr => ∃ k : Nat, j = .int .i64 (k : Int) ∧ k ≤ 8 * m ∧ BytesIn wr G (putB (cutF f k) m) ∧ Below G W wr ∧ G < wr.heap.size) (fun _ _ j _ => 8 * m - (intOf j).toNat)
  case atStart => exact ⟨0, rfl, Nat.zero_le _, HZ.out, HB1.out, hlt⟩
  case round =>
    obtain ⟨k, rfl, hk, hin, hb, hz⟩ := hrel
    have HI := Lib.hid hin
    have HB := Lib.hid hb
    have HZ2 := Lib.hid hz
    clear hin hb hz HZ HB1
    by_cases hkm : k < 8 * m
    · have hck := (HB.out.cell (p := ⟨g, k, none⟩) hgG).trans (HC.out k hkm)
      have hc2 := HF.out k
      obtain ⟨c, hc⟩ : ∃ c, f k = c := ⟨_, rfl⟩
      have HST := Lib.hid (putB_cut f hkm)
      have hfew := numOf_few (cutF_lt HF.out k) 8 (8 * (k / 8)) (k % 8) (fun i hi => by unfold cutF; rw [if_neg (by omega)])
      obtain ⟨L, hL⟩ : ∃ L, putB (cutF f k) m = L := ⟨_, rfl⟩
      have hLl : L.length = m := by rw [← hL, putB_length]
      have hum : k / 8 < m := by omega
      have hLu : L[k / 8]? = some (UInt8.ofNat (numOf (cutF f k) (8 * (k / 8)) 8)) := by rw [← hL]; exact putB_get hum
      have hb256 := numOf_lt (cutF_lt HF.out k) 8 (8 * (k / 8))
      rw [hc] at HST hc2 hck
      rw [hL] at HST HI
      obtain ⟨L2, hL2⟩ : ∃ L2, putB (cutF f (k + 1)) m = L2 := ⟨_, rfl⟩
      rw [hL2] at HST
      have HL2 := Lib.hid hL2
      obtain ⟨b, hb⟩ : ∃ b, numOf (cutF f k) (8 * (k / 8)) 8 = b := ⟨_, rfl⟩
      rw [hb] at HST hfew hLu hb256
      obtain ⟨u, hu⟩ : ∃ u, k / 8 = u := ⟨_, rfl⟩
      obtain ⟨e, he⟩ : ∃ e, k % 8 = e := ⟨_, rfl⟩
      rw [hu] at HST hum hLu
      rw [he] at HST hfew
      have he8 : e < 8 := by omega
      obtain ⟨cu, fu⟩ := HI.out u (by omega)
      have hLu2 : L[u]'(by omega) = UInt8.ofNat b := by
        have := hLu
        rw [List.getElem?_eq_getElem (by omega)] at this
        exact Option.some.inj this
      rw [hLu2, ofNat_toNat (by omega)] at cu
      obtain ⟨p, hp⟩ : ∃ p, 2 ^ e = p := ⟨_, rfl⟩
      have hp3 : p = 1 ∨ p = 2 ∨ p = 4 ∨ p = 8 ∨ p = 16 ∨ p = 32 ∨ p = 64 ∨ p = 128 := by rw [← hp]; exact pow8 e he8
      rw [hp] at HST hfew
      have hpi : (2 : Int) ^ e = (p : Int) := by rw [← hp]; simp
      have hp128 : p ≤ 128 := by omega
      have hp1 : 1 ≤ p := by omega
      obtain ⟨y, hy⟩ : ∃ y, c * p = y := ⟨_, rfl⟩
      have hyi : (c : Int) * (p : Int) = (y : Int) := by rw [← hy]; simp
      have hy128 : y ≤ 128 := by
        rw [← hy]
        rcases (show c = 0 ∨ c = 1 by omega) with h | h <;> rw [h] <;> omega
      have hlt256 : b + y < 256 := by
        have h2 : b < p := hfew
        rw [← hy]
        rcases (show c = 0 ∨ c = 1 by omega) with h | h <;> rw [h] <;> omega
      have hor : bits .or .u8 (b : Int) (y : Int) = (b : Int) + (y : Int) := by
        rw [← hyi]
        exact u8_join e (by rw [hp]) (by omega) (by omega) (by omega) (by rw [hyi]; omega)
      rw [hy] at HST
      obtain ⟨r, hr⟩ : ∃ r, UInt8.ofNat (b + y) = r := ⟨_, rfl⟩
      have hrn : r.toNat = b + y := by rw [← hr]; exact ofNat_toNat hlt256
      rw [hr] at HST
      have hri : (b : Int) + (y : Int) = (r.toNat : Int) := by omega
      have du : (k : Int) / 8 = (u : Int) := by omega
      have de : (k : Int) % 8 = (e : Int) := by omega
      have HLl := Lib.hid hLl
      have hul : u < L.length := by omega
      have hki : (k : Int) < 8 * (m : Int) := by omega
      have hk0 : (0 : Int) ≤ (k : Int) := by omega
      have hui : (u : Int) < (m : Int) := by omega
      have hu0 : (0 : Int) ≤ (u : Int) := by omega
      clear hfew hLu hLu2 hL hL2 hb hu he hp hp3 hr hrn hy hc hb256
      have du2 : IntKind.i64.wrap ((k : Int).tdiv 8) = (u : Int) := by rw [Int.tdiv_eq_ediv_of_nonneg (by omega), IntWalk.i64_in _ (by omega)]; exact du
      have du3 : IntKind.i64.wrap ((k : Int) / 8) = (u : Int) := by rw [IntWalk.i64_in _ (by omega)]; exact du
      have de2 : (k : Int).tmod 8 = (e : Int) := by rw [Int.tmod_eq_emod_of_nonneg (by omega)]; exact de
      have hm64 : min e 64 = e := by omega
      have hw1 : IntKind.i64.wrap (y : Int) = (y : Int) := IntWalk.i64_in _ (by omega)
      have hw2 : IntKind.u8.wrap (y : Int) = (y : Int) := wraps_u8 _ (by omega) (by omega)
      go_wp2_with fail
      go_region
      go_wp2_with fail
      go_roundw
      case rel =>
        refine ⟨k + 1, by simp, by omega, ?_, (HB.out.setCell (p := ⟨G, u, none⟩) (Nat.le_refl _) _).drew, ?_⟩
        · rw [HL2.out, HST.out]
          exact (HI.out.set u hul r).drew
        · have := HZ2.out
          simpa [World.setCell] using this
      case measure => first | (simp [intOf]; omega) | simp [intOf]
    · have hk8 : k = 8 * m := by omega
      subst hk8
      rw [putB_all] at HI
      have hd : ¬ (((8 * m : Nat) : Int) < 8 * (m : Int)) := by omega
      go_wp2
      go_ret
      exact ⟨G, rfl, Nat.le_refl _, HZ2.out, HI.out, HB.out⟩

/-- The closure that asks a text for a bit. -/
def bitClo (R : Nat) : Value := .func (.func 213) #[] #[.pointer (some ⟨R, 0, none⟩)]
theorem bitsWith_any (R : Nat) (a w n : Int) (W : World) :
    Calls Try.prog 201 #[bitClo R, .int .i64 a, .int .i64 w, .int .i64 n] W fun e W' => ∃ o0 o1 o2 o3, o0 = Obj.cells #[bitClo R] 101 (0, 0) ∧ o1 = Obj.cells #[.int .i64 a] 2 (0, 0) ∧ o2 = Obj.cells #[.int .i64 w] 2 (0, 0) ∧ o3 = Obj.cells #[.int .i64 n] 2 (0, 0) ∧
      e = .returned (.func (.func 212) #[] #[.pointer (some ⟨W.heap.size + 1, 0, none⟩), .pointer (some ⟨W.heap.size + 2, 0, none⟩), .pointer (some ⟨W.heap.size + 3, 0, none⟩), .pointer (some ⟨W.heap.size, 0, none⟩)]) ∧ W' = (((W.alloc o0).alloc o1).alloc o2).alloc o3 := by
  unfold bitClo
  go_enter Try.func201, Try.ntmps201
  go_wp2
  go_ret
  exact ⟨_, _, _, _, rfl, rfl, rfl, rfl, rfl, rfl⟩
/-- What stands behind the closure that asks for the bits of n where these stand. -/
structure Bw (u : World) (B : Nat) (s : ByteArray) (a w n : Nat) : Prop where
  text : ∃ R, R < u.heap.size ∧ u.heap[R]? = some (.cells #[.string s] 9 (0, 0)) ∧ u.heap[B]? = some (.cells #[bitClo R] 101 (0, 0))
  at_ : u.heap[B + 1]? = some (.cells #[.int .i64 (a : Int)] 2 (0, 0))
  width : u.heap[B + 2]? = some (.cells #[.int .i64 (w : Int)] 2 (0, 0))
  num : u.heap[B + 3]? = some (.cells #[.int .i64 (n : Int)] 2 (0, 0))
theorem Bw.below {u u' : World} {B b : Nat} {s : ByteArray} {a w n : Nat} (h : Bw u B s a w n) (hb : Below b u u') (hB : B + 3 < b) (hb2 : ∀ R, R < u.heap.size → R < b) : Bw u' B s a w n := by
  obtain ⟨⟨R, h1, h2, h3⟩, h4, h5, h6⟩ := h
  exact ⟨⟨R, Nat.lt_of_lt_of_le h1 hb.size, (hb.block R (hb2 R h1)).trans h2, (hb.block B (by omega)).trans h3⟩, (hb.block _ (by omega)).trans h4, (hb.block _ (by omega)).trans h5, (hb.block _ (by omega)).trans h6⟩
theorem putBit_in (l : List UInt8) {a w n i : Nat} (h1 : a ≤ i) (h2 : i < a + w) : putBit l a w n i = n / 2 ^ (i - a) % 2 := if_pos ⟨h1, h2⟩
theorem putBit_out (l : List UInt8) {a w n i : Nat} (h : ¬ (a ≤ i ∧ i < a + w)) : putBit l a w n i = bitL l i := if_neg h
set_option maxRecDepth 100000 in
set_option maxHeartbeats 2000000 in
theorem bitsWith1_any (B : Nat) (s : ByteArray) (a w n i : Nat) (W : World) (h : Bw W B s a w n) (hs : s.size ≤ 8000) (ha : a ≤ 1800) (hw1 : 1 ≤ w) (hw : w ≤ 32) (hn : n < 4294967296) (hi : i < 8 * s.size) :
    Calls Try.prog 212 #[.int .i64 (i : Int), .pointer (some ⟨B + 1, 0, none⟩), .pointer (some ⟨B + 2, 0, none⟩), .pointer (some ⟨B + 3, 0, none⟩), .pointer (some ⟨B, 0, none⟩)] W fun e W' => e = .returned (.int .i64 ((putBit s.data.toList a w n i : Nat) : Int)) ∧ W = W' := by
  obtain ⟨⟨R, _, h2, h3⟩, h4, h5, h6⟩ := h
  have c0 : W.cell? ⟨B, 0, none⟩ = some (bitClo R) := (cell_of_row W _ 0 _ _ (0, 0) h3).trans rfl
  have c1 : W.cell? ⟨B + 1, 0, none⟩ = some (.int .i64 (a : Int)) := (cell_of_row W _ 0 _ _ (0, 0) h4).trans rfl
  have c2 : W.cell? ⟨B + 2, 0, none⟩ = some (.int .i64 (w : Int)) := (cell_of_row W _ 0 _ _ (0, 0) h5).trans rfl
  have c3 : W.cell? ⟨B + 3, 0, none⟩ = some (.int .i64 (n : Int)) := (cell_of_row W _ 0 _ _ (0, 0) h6).trans rfl
  unfold bitClo at c0
  by_cases hin : a ≤ i ∧ i < a + w
  · have HO := Lib.hid (putBit_in s.data.toList (n := n) hin.1 hin.2)
    have hd : inB 0 ((w : Int) - 1) ((i : Int) - (a : Int)) = true := inB_yes (by omega) (by omega)
    obtain ⟨k, hk⟩ : ∃ k, i - a = k := ⟨_, rfl⟩
    rw [hk] at HO
    have hki : (i : Int) - (a : Int) = (k : Int) := by omega
    have hk32 : k < 32 := by omega
    rw [hki] at hd
    obtain ⟨q, hq⟩ : ∃ q, n / 2 ^ k = q := ⟨_, rfl⟩
    rw [hq] at HO
    have hqi : (n : Int) / 2 ^ k = (q : Int) := by rw [← hq]; simp
    have hqn : q < 4294967296 := by rw [← hq]; exact Nat.lt_of_le_of_lt (Nat.div_le_self _ _) hn
    have hm : bits .and .i64 (q : Int) 1 = ((q % 2 : Nat) : Int) := by
      have := i64_mask (q : Int) 1 (by decide) (by omega) (by omega)
      rw [show ((2 : Int) ^ 1 - 1) = 1 by decide] at this
      rw [this]
      simp
    obtain ⟨c, hc⟩ : ∃ c, q % 2 = c := ⟨_, rfl⟩
    rw [hc] at HO hm
    clear hc hq hk
    go_enter Try.func212, Try.ntmps212
    go_wp2_with (go_at_call 81; refine (from0_any _ _ _).mono ?_; rintro e w' ⟨rfl, rfl⟩)
    go_ret
    exact ⟨by rw [HO.out]; rfl, rfl⟩
  · have HO := Lib.hid (putBit_out s.data.toList (n := n) hin)
    have hd : inB 0 ((w : Int) - 1) ((i : Int) - (a : Int)) = false := inB_no (by omega)
    have HB := Lib.hid (bitsOf1_any R s i W h2 hs hi)
    generalize bitL s.data.toList i = b at *
    go_enter Try.func212, Try.ntmps212
    go_wp2_with (first
      | (go_at_call 81; refine (from0_any _ _ _).mono ?_; rintro e w' ⟨rfl, rfl⟩)
      | (go_at_call 213; refine HB.out.mono ?_; rintro e w' ⟨rfl, rfl⟩))
    go_ret
    exact ⟨by rw [HO.out]; rfl, rfl⟩
end Go.Proofs.Ytanijfmfjabmfaa
