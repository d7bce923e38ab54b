/- Pickers: whether one is right, what is heard of one more, whom one believes. -/
import Derived.Test.YtpolpkheaibonaaHds
import Derived.Test.YtpolpkheaibonaaClaimMath
namespace Go.Proofs.Ytpolpkheaibonaa
open Go.RowKit
set_option linter.unusedVariables false

/-- It holds of all numbers below n. -/
def allR (f : Nat → Bool) (n : Nat) : Bool := (List.range n).all f
theorem allR_yes {f : Nat → Bool} {n : Nat} (h : ∀ i, i < n → f i = true) : allR f n = true := by
  unfold allR
  rw [List.all_eq_true]
  intro i hi
  exact h i (by simpa using hi)
theorem allR_of {f : Nat → Bool} {n : Nat} (h : allR f n = true) : ∀ i, i < n → f i = true := by
  unfold allR at h
  rw [List.all_eq_true] at h
  intro i hi
  exact h i (by simpa using hi)
theorem allR_no {f : Nat → Bool} {n i : Nat} (hi : i < n) (h : f i = false) : allR f n = false := by
  cases hq : allR f n with
  | false => rfl
  | true => rw [allR_of hq i hi] at h; cases h

/-- One of Ranks: an address, none ahead of it alike. -/
def rankAt (r : List Int) (i : Nat) : Bool := inB 0 251 (numAt r i) && !(decide (numAt r i ∈ r.take i))
def ranksB (r : List Int) : Bool := decide (r.length ≤ 5) && allR (rankAt r) r.length
/-- One of Heard. -/
def heardAt (r : List Int) (h : List Hd) (i : Nat) : Bool :=
  decide ((hdAt h i).s ∈ r) && (inB (-2147483648) 2147483647 (hdAt h i).n && (inB 0 1000000 (hdAt h i).g && (decide (i = 0) || decide ((hdAt h (i - 1)).s < (hdAt h i).s))))
def heardB (r : List Int) (h : List Hd) : Bool := allR (heardAt r h) h.length
/-- The Picker is right. -/
def pkB (r : List Int) (h : List Hd) : Bool := ranksB r && heardB r h
theorem pkB_of {r : List Int} {h : List Hd} (k : pkB r h = true) : r.length ≤ 5 ∧ (∀ i, i < r.length → rankAt r i = true) ∧ (∀ i, i < h.length → heardAt r h i = true) := by
  unfold pkB ranksB heardB at k
  simp only [Bool.and_eq_true, decide_eq_true_eq] at k
  exact ⟨k.1.1, allR_of k.1.2, allR_of k.2⟩
theorem heardAt_of {r : List Int} {h : List Hd} {i : Nat} (k : heardAt r h i = true) : (hdAt h i).s ∈ r ∧ (-2147483648 ≤ (hdAt h i).n ∧ (hdAt h i).n ≤ 2147483647) ∧ (0 ≤ (hdAt h i).g ∧ (hdAt h i).g ≤ 1000000) ∧ (i = 0 ∨ (hdAt h (i - 1)).s < (hdAt h i).s) := by
  unfold heardAt inB at k
  simp only [Bool.and_eq_true, Bool.or_eq_true, decide_eq_true_eq] at k
  exact ⟨k.1, ⟨by omega, by omega⟩, ⟨by omega, by omega⟩, k.2.2.2⟩
theorem heard_lt {r : List Int} {h : List Hd} {n : Nat} (k : ∀ i, i < n → heardAt r h i = true) : ∀ j, j < n → ∀ i, i < j → (hdAt h i).s < (hdAt h j).s := by
  intro j
  induction j with
  | zero => intro _ i hi; omega
  | succ j ih =>
    intro hj i hi
    have h1 := (heardAt_of (k (j + 1) hj)).2.2.2
    have h2 : (hdAt h j).s < (hdAt h (j + 1)).s := by
      rcases h1 with h1 | h1
      · omega
      · exact h1
    rcases Nat.eq_or_lt_of_le (Nat.le_of_lt_succ hi) with rfl | hlt
    · exact h2
    · exact Int.lt_trans (ih (by omega) i hlt) h2
theorem sub_len : ∀ (l r : List Int), l.Nodup → (∀ x ∈ l, x ∈ r) → l.length ≤ r.length
  | [], _, _, _ => by simp
  | x :: l, r, h, hs => by
    have hx := hs x (by simp)
    have h1 := sub_len l (r.erase x) (List.nodup_cons.1 h).2 (fun y hy => (List.mem_erase_of_ne (by rintro rfl; exact (List.nodup_cons.1 h).1 hy)).2 (hs y (by simp [hy])))
    rw [List.length_erase_of_mem hx] at h1
    have h2 : 0 < r.length := List.length_pos_of_mem hx
    simp only [List.length_cons]
    omega
/-- The places that it is heard of. -/
def hdS (h : List Hd) : List Int := h.map (·.s)
theorem hdS_length (h : List Hd) : (hdS h).length = h.length := by simp [hdS]
theorem hdS_at {h : List Hd} {i : Nat} (hi : i < h.length) : (hdS h)[i]? = some (hdAt h i).s := by
  unfold hdS
  rw [List.getElem?_map, hdAt_some hi]
  rfl
theorem heard_len {r : List Int} {h : List Hd} (k : ∀ i, i < h.length → heardAt r h i = true) : h.length ≤ r.length := by
  rw [← hdS_length]
  refine sub_len _ _ ?_ ?_
  · unfold List.Nodup
    rw [List.pairwise_iff_getElem]
    intro i j hi hj hij
    have hi' : i < h.length := by rwa [hdS_length] at hi
    have hj' : j < h.length := by rwa [hdS_length] at hj
    have h1 := hdS_at hi'
    have h2 := hdS_at hj'
    rw [List.getElem?_eq_getElem hi] at h1
    rw [List.getElem?_eq_getElem hj] at h2
    rw [Option.some.inj h1, Option.some.inj h2]
    exact Int.ne_of_lt (heard_lt k j hj' i hij)
  · intro x hx
    unfold hdS at hx
    obtain ⟨y, hy, rfl⟩ := List.mem_map.1 hx
    obtain ⟨i, hi⟩ := List.getElem?_of_mem hy
    have hl := (List.getElem?_eq_some_iff.1 hi).1
    rw [hdAt_some hl] at hi
    rw [← Option.some.inj hi]
    exact (heardAt_of (k i hl)).1
theorem pkB_len {r : List Int} {h : List Hd} (k : pkB r h = true) : h.length ≤ 5 :=
  Nat.le_trans (heard_len (pkB_of k).2.2) (pkB_of k).1
theorem pkB_long {r : List Int} {h : List Hd} (k : 5 < h.length) : pkB r h = false := by
  cases hq : pkB r h with
  | false => rfl
  | true => have := pkB_len hq; omega
theorem pkB_ranks {r : List Int} {h : List Hd} (k : 5 < r.length) : pkB r h = false := by
  cases hq : pkB r h with
  | false => rfl
  | true => have := (pkB_of hq).1; omega
theorem pkB_rank {r : List Int} {h : List Hd} {i : Nat} (hi : i < r.length) (k : rankAt r i = false) : pkB r h = false := by
  cases hq : pkB r h with
  | false => rfl
  | true => rw [(pkB_of hq).2.1 i hi] at k; cases k
theorem pkB_heard {r : List Int} {h : List Hd} {i : Nat} (hi : i < h.length) (k : heardAt r h i = false) : pkB r h = false := by
  cases hq : pkB r h with
  | false => rfl
  | true => rw [(pkB_of hq).2.2 i hi] at k; cases k
theorem ranksB_yes {r : List Int} (h5 : r.length ≤ 5) (h1 : ∀ i, i < r.length → rankAt r i = true) : ranksB r = true := by
  unfold ranksB
  rw [allR_yes h1, decide_eq_true h5]
  rfl
theorem ranksB_no {r : List Int} {i : Nat} (hi : i < r.length) (k : rankAt r i = false) : ranksB r = false := by
  unfold ranksB
  rw [allR_no hi k, Bool.and_false]
theorem ranksB_long {r : List Int} (k : 5 < r.length) : ranksB r = false := by
  unfold ranksB
  rw [decide_eq_false (by omega), Bool.false_and]
theorem pkB_yes {r : List Int} {h : List Hd} (h5 : r.length ≤ 5) (h1 : ∀ i, i < r.length → rankAt r i = true) (h2 : ∀ i, i < h.length → heardAt r h i = true) : pkB r h = true := by
  unfold pkB heardB
  rw [ranksB_yes h5 h1, allR_yes h2]
  rfl
/-- Where one is heard of. -/
def putH (h : List Hd) (s n : Int) : List Hd :=
  h.take (cntI (hdS h) s) ++ ⟨s, n, 0⟩ :: h.drop (if (hdS h)[cntI (hdS h) s]? = some s then cntI (hdS h) s + 1 else cntI (hdS h) s)
def mayB (r : List Int) (h : List Hd) (s n : Int) : Bool := pkB r h && (decide (s ∈ r) && inB (-2147483648) 2147483647 n)
def hearH (r : List Int) (h : List Hd) (s n : Int) : List Hd := if mayB r h s n = true then putH h s n else h
def tickH (h : List Hd) : List Hd := h.map fun x => ⟨x.s, x.n, if x.g + 1 < 1000000 then x.g + 1 else 1000000⟩
theorem tickH_length (h : List Hd) : (tickH h).length = h.length := by simp [tickH]
/-- Whom one believes. -/
def pickL (h : List Hd) (w : Int) : List Int → Int × Int × Int
  | [] => (0, 0, 6)
  | s :: r => match h.find? (fun x => x.s == s && decide (x.g ≤ w)) with
    | some x => (x.s, x.n, 0)
    | none => pickL h w r
def pickV (r : List Int) (h : List Hd) (w : Int) : Int × Int × Int := if (pkB r h && inB 0 1000000 w) = true then pickL h w r else (0, 0, 1)
/-- Where the look for s ends among what is heard. -/
theorem cntS_of {r : List Int} {h : List Hd} {s : Int} (k : ∀ i, i < h.length → heardAt r h i = true) {i : Nat} (hi : i ≤ h.length) (hb : ∀ t, t < i → (hdAt h t).s < s) (ha : i < h.length → s ≤ (hdAt h i).s) : i = cntI (hdS h) s := by
  refine cntI_of (by rw [hdS_length]; exact hi) (fun j y hj hy => ?_) (fun y hy => ?_)
  · rw [hdS_at (by omega)] at hy
    rw [← Option.some.inj hy]
    exact hb j hj
  · have hl := (List.getElem?_eq_some_iff.1 hy).1
    rw [hdS_length] at hl
    rw [hdS_at hl] at hy
    rw [← Option.some.inj hy]
    have := ha hl
    omega
end Go.Proofs.Ytpolpkheaibonaa
