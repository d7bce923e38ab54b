/- Claims as lists and numbers: which are right, what is taken, the next address that is free, what is heard, a tick; and what of that is so of all of them. -/
import Derived.Test.YtioldepgoodipaaGreatNameLess2
namespace Go.Proofs.YtioldepgoodipaaGreat
open Go.RowKit
set_option linter.unusedVariables false

/-- A Claim. -/
structure Cl where (n : Nm) (ad : Int) (st : Int) (lf : Int) (tk : List Int)
/-- Rising addresses, all above p. -/
def riseB : Int → List Int → Bool
  | _, [] => true
  | p, x :: r => inB 0 251 x && (decide (p < x) && riseB x r)
/-- What its state asks of a Claim. -/
def stateB (c : Cl) : Bool :=
  if c.st = 1 then inB 0 251 c.ad && inB 1 250 c.lf else if c.st = 2 then inB 0 251 c.ad && decide (c.lf = 0) else if c.st = 3 then decide (c.ad = 254) && decide (c.lf = 0) else false
/-- A Claim is right. -/
def clB (c : Cl) : Bool := okB c.n && (decide (c.tk.length ≤ 252) && (riseB (-1) c.tk && stateB c))
theorem riseB_cons {p x : Int} {r : List Int} (h : riseB p (x :: r) = true) : (0 ≤ x ∧ x ≤ 251) ∧ p < x ∧ riseB x r = true := by
  simp only [riseB, Bool.and_eq_true, decide_eq_true_eq] at h
  exact ⟨inB_of h.1, h.2.1, h.2.2⟩
theorem riseB_mk {p x : Int} {r : List Int} (h0 : 0 ≤ x ∧ x ≤ 251) (h1 : p < x) (h2 : riseB x r = true) : riseB p (x :: r) = true := by
  simp [riseB, inB_yes h0.1 h0.2, h1, h2]
theorem riseB_mem {p : Int} {l : List Int} (h : riseB p l = true) : ∀ x ∈ l, p < x ∧ 0 ≤ x ∧ x ≤ 251 := by
  induction l generalizing p with
  | nil => intro x hx; cases hx
  | cons y r ih =>
    obtain ⟨h0, h1, h2⟩ := riseB_cons h
    intro x hx
    rcases List.mem_cons.1 hx with rfl | hx
    · exact ⟨h1, h0⟩
    · have := ih h2 x hx
      exact ⟨by omega, this.2⟩
theorem riseB_less {p q : Int} {l : List Int} (h : riseB p l = true) (hq : q ≤ p) : riseB q l = true := by
  cases l with
  | nil => rfl
  | cons y r =>
    obtain ⟨h0, h1, h2⟩ := riseB_cons h
    exact riseB_mk h0 (by omega) h2
theorem riseB_len {p : Int} {l : List Int} (h : riseB p l = true) (hp : p ≤ 251) : (l.length : Int) ≤ 251 - p := by
  induction l generalizing p with
  | nil => simp; omega
  | cons y r ih =>
    obtain ⟨h0, h1, h2⟩ := riseB_cons h
    have := ih h2 h0.2
    simp
    omega
/-- Who has all of them is as long as they are. -/
theorem riseB_all {p : Int} {l : List Int} (h : riseB p l = true) (hp : -1 ≤ p) (hall : ∀ v : Int, p < v → v ≤ 251 → v ∈ l) : 251 - p ≤ (l.length : Int) := by
  induction l generalizing p with
  | nil =>
    rcases Int.lt_or_le p 251 with h' | h'
    · exact absurd (hall (p + 1) (by omega) (by omega)) (by simp)
    · simp; omega
  | cons y r ih =>
    obtain ⟨h0, h1, h2⟩ := riseB_cons h
    have hy : y = p + 1 := by
      rcases Int.lt_or_le (p + 1) y with h' | h'
      · have := hall (p + 1) (by omega) (by omega)
        rcases List.mem_cons.1 this with e | e
        · omega
        · have := (riseB_mem h2 _ e).1
          omega
      · omega
    have := ih h2 (by omega) (fun v hv hv' => by
      rcases List.mem_cons.1 (hall v (by omega) hv') with e | e
      · omega
      · exact e)
    simp
    omega
/-- One of them is free. -/
theorem free_one {l : List Int} (h : riseB (-1) l = true) (hl : l.length ≤ 251) : ∃ v : Int, 0 ≤ v ∧ v ≤ 251 ∧ v ∉ l := by
  apply Classical.byContradiction
  intro q
  have := riseB_all h (by omega) (fun v hv hv' => by
    apply Classical.byContradiction
    intro hn
    exact q ⟨v, by omega, hv', hn⟩)
  omega

/-- An address more among those that are taken. -/
def takeI : List Int → Int → List Int
  | [], x => [x]
  | y :: r, x => if y < x then y :: takeI r x else if y = x then x :: r else x :: y :: r
theorem takeI_mem (l : List Int) (x : Int) : x ∈ takeI l x := by
  induction l with
  | nil => simp [takeI]
  | cons y r ih =>
    unfold takeI
    split
    · exact List.mem_cons_of_mem _ ih
    split
    · simp
    · simp
theorem takeI_rise {p : Int} {l : List Int} {x : Int} (h : riseB p l = true) (hp : p < x) (hx : 0 ≤ x ∧ x ≤ 251) : riseB p (takeI l x) = true := by
  induction l generalizing p with
  | nil => exact riseB_mk hx hp rfl
  | cons y r ih =>
    obtain ⟨h0, h1, h2⟩ := riseB_cons h
    unfold takeI
    split
    · rename_i hlt
      exact riseB_mk h0 h1 (ih h2 hlt)
    split
    · rename_i e
      subst e
      exact h
    · rename_i hn hne
      exact riseB_mk hx hp (riseB_mk h0 (by omega) h2)
/-- How many of the first ones are less. -/
def cntI : List Int → Int → Nat
  | [], _ => 0
  | y :: r, x => if y < x then cntI r x + 1 else 0
theorem cntI_le (l : List Int) (x : Int) : cntI l x ≤ l.length := by
  induction l with
  | nil => exact Nat.le_refl _
  | cons y r ih => unfold cntI; split <;> simp <;> omega
theorem cntI_before (l : List Int) (x : Int) : ∀ (k : Nat) y, k < cntI l x → l[k]? = some y → y < x := by
  induction l with
  | nil => intro k y hk; simp [cntI] at hk
  | cons z r ih =>
    intro k y hk hy
    unfold cntI at hk
    split at hk
    · rename_i hz
      rcases k with _ | k
      · simp at hy; omega
      · simp at hy
        exact ih k y (by omega) hy
    · omega
theorem cntI_at (l : List Int) (x : Int) : ∀ y, l[cntI l x]? = some y → ¬ y < x := by
  induction l with
  | nil => intro y h; simp at h
  | cons z r ih =>
    intro y hy
    unfold cntI at hy
    split at hy
    · exact ih y (by simpa using hy)
    · rename_i hz
      simp at hy
      omega
/-- A number of the first ones all of which are less, and behind which one is not, is that. -/
theorem cntI_of {l : List Int} {x : Int} {k : Nat} (hk : k ≤ l.length) (hb : ∀ (j : Nat) y, j < k → l[j]? = some y → y < x) (ha : ∀ y, l[k]? = some y → ¬ y < x) : k = cntI l x := by
  have h1 := cntI_le l x
  rcases Nat.lt_or_ge k (cntI l x) with h | h
  · exact absurd (cntI_before l x k _ h (List.getElem?_eq_getElem (by omega))) (ha _ (List.getElem?_eq_getElem (by omega)))
  rcases Nat.lt_or_ge (cntI l x) k with h' | h'
  · exact absurd (hb _ _ h' (List.getElem?_eq_getElem (by omega))) (cntI_at l x _ (List.getElem?_eq_getElem (by omega)))
  · omega
theorem takeI_form (l : List Int) (x : Int) : takeI l x = l.take (cntI l x) ++ x :: l.drop (if l[cntI l x]? = some x then cntI l x + 1 else cntI l x) := by
  induction l with
  | nil => simp [takeI, cntI]
  | cons y r ih =>
    unfold takeI cntI
    split
    · rw [ih]
      simp only [List.take_succ_cons, List.getElem?_cons_succ, List.cons_append]
      congr 3
      split <;> simp
    split
    · rename_i e
      subst e
      simp
    · rename_i h1 h2
      simp [h2]

/-- The first address behind one that is not taken, within f steps. -/
def nextF (l : List Int) : Nat → Int → Int
  | 0, a => a
  | f + 1, a => if (a + 1) % 252 ∈ l then nextF l f ((a + 1) % 252) else (a + 1) % 252
/-- The first address behind one that is not taken. -/
def nextI (l : List Int) (a : Int) : Int := nextF l 252 a
theorem nextF_free (l : List Int) (f : Nat) (a : Int) (d : Nat) (hd : d < f) (h : (a + 1 + d) % 252 ∉ l) : nextF l f a ∉ l ∧ 0 ≤ nextF l f a ∧ nextF l f a ≤ 251 := by
  induction f generalizing a d with
  | zero => omega
  | succ f ih =>
    unfold nextF
    split
    · rename_i hm
      rcases d with _ | d
      · exact absurd (by simpa using hm) (by simpa using h)
      · refine ih ((a + 1) % 252) d (by omega) ?_
        rw [show ((a + 1) % 252 + 1 + (d : Int)) % 252 = (a + 1 + ((d + 1 : Nat) : Int)) % 252 by omega]
        exact h
    · rename_i hm
      exact ⟨hm, by omega, by omega⟩
theorem nextI_free {l : List Int} {a : Int} (h : riseB (-1) l = true) (hl : l.length ≤ 251) (ha : 0 ≤ a ∧ a ≤ 251) : nextI l a ∉ l ∧ 0 ≤ nextI l a ∧ nextI l a ≤ 251 := by
  obtain ⟨v, v0, v1, hv⟩ := free_one h hl
  refine nextF_free l 252 a ((v - a - 1) % 252).toNat (by omega) ?_
  rw [show (a + 1 + (((v - a - 1) % 252).toNat : Int)) % 252 = v by omega]
  exact hv

/-- What is heard: the Claim behind it, and whether it is to be sent. -/
def hearC (c : Cl) (s : Int) (m : Nm) (same : Bool) : Cl × Bool :=
  if same = true then (c, false) else
  let t := if inB 0 251 s = true then takeI c.tk s else c.tk
  if s ≠ c.ad ∨ c.st = 3 then (⟨c.n, c.ad, c.st, c.lf, t⟩, false)
  else if nmN c.n < nmN m then (⟨c.n, c.ad, c.st, c.lf, t⟩, true)
  else if c.n.a = false ∨ 251 < t.length then (⟨c.n, 254, 3, 0, t⟩, true)
  else (⟨c.n, nextI t c.ad, 1, 250, t⟩, true)
/-- A tick. -/
def tickC (c : Cl) : Cl := if c.st = 1 then ⟨c.n, c.ad, if c.lf - 1 = 0 then 2 else 1, c.lf - 1, c.tk⟩ else c
theorem clB_of {c : Cl} (h : clB c = true) : okB c.n = true ∧ c.tk.length ≤ 252 ∧ riseB (-1) c.tk = true ∧ stateB c = true := by
  simpa [clB] using h
theorem stateB_of {c : Cl} (h : stateB c = true) : (c.st = 1 ∧ (0 ≤ c.ad ∧ c.ad ≤ 251) ∧ 1 ≤ c.lf ∧ c.lf ≤ 250) ∨ (c.st = 2 ∧ (0 ≤ c.ad ∧ c.ad ≤ 251) ∧ c.lf = 0) ∨ (c.st = 3 ∧ c.ad = 254 ∧ c.lf = 0) := by
  unfold stateB at h
  split at h
  · simp only [Bool.and_eq_true] at h
    exact .inl ⟨by assumption, inB_of h.1, (inB_of h.2).1, (inB_of h.2).2⟩
  split at h
  · simp only [Bool.and_eq_true, decide_eq_true_eq] at h
    exact .inr (.inl ⟨by assumption, inB_of h.1, h.2⟩)
  split at h
  · simp only [Bool.and_eq_true, decide_eq_true_eq] at h
    exact .inr (.inr ⟨by assumption, h⟩)
  · cases h
theorem clB_mk {c : Cl} (h0 : okB c.n = true) (h1 : riseB (-1) c.tk = true) (h2 : (c.st = 1 ∧ (0 ≤ c.ad ∧ c.ad ≤ 251) ∧ 1 ≤ c.lf ∧ c.lf ≤ 250) ∨ (c.st = 2 ∧ (0 ≤ c.ad ∧ c.ad ≤ 251) ∧ c.lf = 0) ∨ (c.st = 3 ∧ c.ad = 254 ∧ c.lf = 0)) : clB c = true := by
  have hl := riseB_len h1 (by omega)
  unfold clB
  rw [h0, h1]
  have : decide (c.tk.length ≤ 252) = true := decide_eq_true (by omega)
  rw [this]
  simp only [Bool.true_and]
  unfold stateB
  rcases h2 with ⟨e, h3, h4, h5⟩ | ⟨e, h3, h4⟩ | ⟨e, h3, h4⟩
  · rw [if_pos e, inB_yes h3.1 h3.2, inB_yes h4 h5]; rfl
  · rw [if_neg (by omega), if_pos e, inB_yes h3.1 h3.2]; simp [h4]
  · rw [if_neg (by omega), if_neg (by omega), if_pos e]; simp [h3, h4]
/-- What is right stays right, whatever is heard. -/
theorem hearC_right {c : Cl} {s : Int} {m : Nm} {same : Bool} (h : clB c = true) : clB (hearC c s m same).1 = true := by
  obtain ⟨h0, h1, h2, h3⟩ := clB_of h
  have hs := stateB_of h3
  have ht : riseB (-1) (if inB 0 251 s = true then takeI c.tk s else c.tk) = true := by
    split
    · rename_i hi
      have := inB_of hi
      exact takeI_rise h2 (by omega) this
    · exact h2
  unfold hearC
  generalize (if inB 0 251 s = true then takeI c.tk s else c.tk) = t at *
  split
  · exact h
  dsimp only
  split
  · exact clB_mk h0 ht hs
  split
  · exact clB_mk h0 ht hs
  split
  · exact clB_mk h0 ht (.inr (.inr ⟨rfl, rfl, rfl⟩))
  · rename_i hn _ hq
    have ha : 0 ≤ c.ad ∧ c.ad ≤ 251 := by
      rcases hs with ⟨_, h, _⟩ | ⟨_, h, _⟩ | ⟨h, _⟩
      · exact h
      · exact h
      · exact absurd (.inr h) hn
    have := nextI_free ht (by omega) ha
    exact clB_mk h0 ht (.inl ⟨rfl, this.2, by show (1 : Int) ≤ 250; omega, by show (250 : Int) ≤ 250; omega⟩)
theorem tickC_right {c : Cl} (h : clB c = true) : clB (tickC c) = true := by
  obtain ⟨h0, h1, h2, h3⟩ := clB_of h
  unfold tickC
  split
  · rename_i e
    rcases stateB_of h3 with ⟨_, ha, hl, hl'⟩ | ⟨e', _⟩ | ⟨e', _⟩
    · refine clB_mk h0 h2 ?_
      by_cases hz : c.lf - 1 = 0
      · rw [if_pos hz]
        exact .inr (.inl ⟨rfl, ha, hz⟩)
      · rw [if_neg hz]
        exact .inl ⟨rfl, ha, by show 1 ≤ c.lf - 1; omega, by show c.lf - 1 ≤ 250; omega⟩
    · omega
    · omega
  · exact h
/-- So many ticks. -/
def ticksC : Nat → Cl → Cl
  | 0, c => c
  | k + 1, c => ticksC k (tickC c)
/-- Who has waited long enough holds it. -/
theorem ticks_held (k : Nat) {c : Cl} (h : clB c = true) (hk : c.lf = k) (h3 : c.st ≠ 3) : (ticksC k c).st = 2 := by
  induction k generalizing c with
  | zero =>
    rcases stateB_of (clB_of h).2.2.2 with ⟨_, _, hl, _⟩ | ⟨e, _⟩ | ⟨e, _⟩
    · omega
    · exact e
    · exact absurd e h3
  | succ k ih =>
    rcases stateB_of (clB_of h).2.2.2 with ⟨e, ha, hl, _⟩ | ⟨_, _, hl⟩ | ⟨e, _⟩
    · unfold ticksC
      refine ih (tickC_right h) ?_ ?_
      · unfold tickC
        rw [if_pos e]
        show c.lf - 1 = k
        omega
      · unfold tickC
        rw [if_pos e]
        show (if c.lf - 1 = 0 then (2 : Int) else 1) ≠ 3
        split <;> omega
    · omega
    · exact absurd e h3
/-- Of two that claim one address: who has the lesser name keeps it, and the other one goes. -/
theorem hear_one {c : Cl} {s : Int} {m : Nm} (h : clB c = true) (hs : s = c.ad) (h3 : c.st ≠ 3) :
    (hearC c s m false).2 = true ∧ (decide ((hearC c s m false).1.ad = c.ad) = decide (nmN c.n < nmN m)) := by
  obtain ⟨h0, h1, h2, h4⟩ := clB_of h
  have ha : 0 ≤ c.ad ∧ c.ad ≤ 251 := by
    rcases stateB_of h4 with ⟨_, h, _⟩ | ⟨_, h, _⟩ | ⟨h, _⟩
    · exact h
    · exact h
    · exact absurd h h3
  have ht : riseB (-1) (takeI c.tk s) = true := takeI_rise h2 (by omega) (by omega)
  have hm : c.ad ∈ takeI c.tk s := hs ▸ takeI_mem c.tk s
  unfold hearC
  rw [if_neg (by simp)]
  dsimp only
  rw [if_pos (inB_yes (by omega) (by omega)), if_neg (by simp [hs, h3])]
  split
  · rename_i hl
    simp [hl]
  · rename_i hl
    split
    · simp [hl]
      omega
    · rename_i hq
      have := nextI_free ht (by omega) ha
      refine ⟨rfl, ?_⟩
      rw [decide_eq_false hl, decide_eq_false]
      intro e
      exact this.1 (by show nextI _ c.ad ∈ _; rw [show nextI (takeI c.tk s) c.ad = c.ad from e]; exact hm)
end Go.Proofs.YtioldepgoodipaaGreat
