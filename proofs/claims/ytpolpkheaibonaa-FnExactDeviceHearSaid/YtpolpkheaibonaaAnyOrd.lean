/- A region that draws its order, by what is known of each operation's value and of the world, whatever order comes: for operations without a guard, each with a place of its own for its value. -/
import Derived.Test.YtpolpkheaibonaaOwn
import Derived.Orders
import Derived.Deep.QuietTactic
namespace Go.Proofs.Ytpolpkheaibonaa
open Go.RowKit
set_option linter.unusedVariables false

section
variable {P : Program} {ops : Array Oper} {Q : Exit → Act → World → Prop}
theorem count_set (l : List Bool) : ∀ i, l[i]? = some false → (l.set i true).count false + 1 = l.count false := by
  induction l with
  | nil => intro i h; simp at h
  | cons b r ih =>
    intro i h
    rcases i with _ | i
    · simp at h
      subst h
      simp
    · have := ih i (by simpa using h)
      cases b <;> simp <;> omega
theorem wpAny_of_inv {Inv : Array Bool → Act → World → Prop}
    (hstep : ∀ listed a w i, Inv listed a w → i ∈ Region.ready .any ops listed → wpOp P ops Q i (fun a' w' => Inv (listed.setIfInBounds i true) a' w') a w)
    (hend : ∀ listed a w, Inv listed a w → Region.ready .any ops listed = [] → Q .normal a w) :
    ∀ (fuel : Nat) (listed : Array Bool) (a : Act) (w : World), Inv listed a w → listed.toList.count false ≤ fuel → wpAny P .any ops Q fuel listed a w := by
  have hready : ∀ (listed : Array Bool) i, i ∈ Region.ready .any ops listed → listed.toList[i]? = some false := by
    intro listed i hi
    have h := (mem_ready.1 hi).1
    rw [Array.getElem?_toList]
    rcases Nat.lt_or_ge i listed.size with h1 | h1
    · rw [Array.getElem?_eq_getElem h1]
      simp [h1] at h
      rw [h]
    · simp [Array.getElem?_eq_none h1] at h
  intro fuel
  induction fuel with
  | zero =>
    intro listed a w h hc
    have h0 : Region.ready .any ops listed = [] := by
      apply List.eq_nil_iff_forall_not_mem.2
      intro i hi
      have := hready listed i hi
      have h2 := List.count_eq_zero.1 (Nat.le_zero.1 hc)
      exact h2 (List.mem_of_getElem? this)
    exact ⟨h0, hend listed a w h h0⟩
  | succ fuel ih =>
    intro listed a w h hc
    refine ⟨fun h0 => hend listed a w h h0, fun i hi => ?_⟩
    refine wpOp_mono (fun a' w' h' => ih _ a' w' h' ?_) (hstep listed a w i h hi)
    have := count_set listed.toList i (hready listed i hi)
    rw [Array.toList_setIfInBounds]
    omega

/-- The frame with the values of those operations that have come up. -/
def fillL (vs : Nat → Value) (on : Nat → Bool) : List Oper → Nat → Act → Act
  | [], _, a => a
  | o :: r, k, a => fillL vs on r (k + 1) (if on k = true then a.put o.dst (vs k) else a)
/-- No two have one place, and this place is none of them. -/
def freeOf (d : Option Tmp) : List Oper → Bool
  | [] => true
  | o :: r => (match d, o.dst with | some x, some y => x != y | _, _ => true) && freeOf d r
def apartAll : List Oper → Bool
  | [] => true
  | o :: r => freeOf o.dst r && apartAll r
theorem freeOf_cons {d : Option Tmp} {o : Oper} {r : List Oper} (h : freeOf d (o :: r) = true) : (∀ x, d = some x → o.dst ≠ some x) ∧ freeOf d r = true := by
  simp only [freeOf, Bool.and_eq_true] at h
  refine ⟨fun x hx ho => ?_, h.2⟩
  subst hx
  rw [ho] at h
  simp at h
theorem fillL_put (vs : Nat → Value) (on : Nat → Bool) (d : Option Tmp) (v : Value) : ∀ (l : List Oper) (k : Nat) (a : Act), freeOf d l = true → fillL vs on l k (a.put d v) = (fillL vs on l k a).put d v := by
  intro l
  induction l with
  | nil => intro k a h; rfl
  | cons o r ih =>
    intro k a h
    obtain ⟨h1, h2⟩ := freeOf_cons h
    show fillL vs on r (k + 1) (if on k = true then (a.put d v).put o.dst (vs k) else a.put d v) = (fillL vs on r (k + 1) (if on k = true then a.put o.dst (vs k) else a)).put d v
    split
    · rw [Act.put_comm a v (vs k) h1, ih _ _ h2]
    · rw [ih _ _ h2]
theorem fillL_congr {vs vs' : Nat → Value} {on on' : Nat → Bool} : ∀ (l : List Oper) (k : Nat) (a : Act), (∀ j, k ≤ j → on j = on' j ∧ (on j = true → vs j = vs' j)) → fillL vs on l k a = fillL vs' on' l k a := by
  intro l
  induction l with
  | nil => intro k a h; rfl
  | cons o r ih =>
    intro k a h
    show fillL vs on r (k + 1) (if on k = true then a.put o.dst (vs k) else a) = fillL vs' on' r (k + 1) (if on' k = true then a.put o.dst (vs' k) else a)
    obtain ⟨h1, h2⟩ := h k (Nat.le_refl _)
    rw [ih (k + 1) _ (fun j hj => h j (by omega)), ← h1]
    split
    · rename_i hk; rw [h2 hk]
    · rfl
def upd {α : Type} (f : Nat → α) (i : Nat) (x : α) (j : Nat) : α := if j = i then x else f j
theorem fillL_step (vs : Nat → Value) (on : Nat → Bool) (v : Value) : ∀ (l : List Oper) (k i : Nat) (o : Oper) (a : Act), apartAll l = true → l[i]? = some o → on (k + i) = false →
    fillL (upd vs (k + i) v) (upd on (k + i) true) l k a = (fillL vs on l k a).put o.dst v := by
  intro l
  induction l with
  | nil => intro k i o a _ h; simp at h
  | cons o' r ih =>
    intro k i o a hap h hon
    simp only [apartAll, Bool.and_eq_true] at hap
    rcases i with _ | i
    · simp at h
      subst h
      show fillL (upd vs (k + 0) v) (upd on (k + 0) true) r (k + 1) (if upd on (k + 0) true k = true then a.put o'.dst (upd vs (k + 0) v k) else a) = (fillL vs on r (k + 1) (if on k = true then a.put o'.dst (vs k) else a)).put o'.dst v
      have e1 : upd on (k + 0) true k = true := by simp [upd]
      have e2 : upd vs (k + 0) v k = v := by simp [upd]
      have e3 : on k = false := hon
      rw [if_pos e1, e2, e3, if_neg (by simp), ← fillL_put vs on o'.dst v r (k + 1) a hap.1]
      refine fillL_congr r (k + 1) _ fun j hj => ?_
      have hne : j ≠ k + 0 := by omega
      unfold upd
      rw [if_neg hne, if_neg hne]
      exact ⟨rfl, fun _ => rfl⟩
    · show fillL (upd vs (k + (i + 1)) v) (upd on (k + (i + 1)) true) r (k + 1) (if upd on (k + (i + 1)) true k = true then a.put o'.dst (upd vs (k + (i + 1)) v k) else a) = (fillL vs on r (k + 1) (if on k = true then a.put o'.dst (vs k) else a)).put o.dst v
      have e1 : upd on (k + (i + 1)) true k = on k := by unfold upd; rw [if_neg (by omega)]
      have e2 : upd vs (k + (i + 1)) v k = vs k := by unfold upd; rw [if_neg (by omega)]
      rw [e1, e2, show k + (i + 1) = k + 1 + i by omega]
      exact ih (k + 1) i o _ hap.2 (by simpa using h) (by rw [show k + 1 + i = k + (i + 1) by omega]; exact hon)
theorem eval_put_other {a : Act} {d : Option Tmp} {v : Value} {s : Nat} (h : d ≠ some s) : (a.put d v).eval (.tmp s) = a.eval (.tmp s) := by
  cases d with
  | none => rfl
  | some x =>
    have hx : x ≠ s := fun e => h (by rw [e])
    show (a.tmps.setIfInBounds x v).getD s undef = a.tmps.getD s undef
    simp [Array.getD_eq_getD_getElem?, hx]
theorem eval_put_same {a : Act} {v : Value} {s : Nat} (h : s < a.tmps.size) : (a.put (some s) v).eval (.tmp s) = v := by
  show (a.tmps.setIfInBounds s v).getD s undef = v
  simp [Array.getD_eq_getD_getElem?, h]
theorem size_put (a : Act) (d : Option Tmp) (v : Value) : (a.put d v).tmps.size = a.tmps.size := by
  cases d with
  | none => rfl
  | some x => simp [Act.put]
theorem fillL_other (vs : Nat → Value) (on : Nat → Bool) (s : Nat) : ∀ (l : List Oper) (k : Nat) (a : Act), freeOf (some s) l = true → (fillL vs on l k a).eval (.tmp s) = a.eval (.tmp s) := by
  intro l
  induction l with
  | nil => intro k a h; rfl
  | cons o r ih =>
    intro k a h
    obtain ⟨h1, h2⟩ := freeOf_cons h
    show (fillL vs on r (k + 1) (if on k = true then a.put o.dst (vs k) else a)).eval (.tmp s) = _
    rw [ih _ _ h2]
    split
    · exact eval_put_other (h1 s rfl)
    · rfl
theorem fillL_at (vs : Nat → Value) (on : Nat → Bool) (s : Nat) : ∀ (l : List Oper) (k i : Nat) (o : Oper) (a : Act), apartAll l = true → l[i]? = some o → o.dst = some s → on (k + i) = true → s < a.tmps.size → (fillL vs on l k a).eval (.tmp s) = vs (k + i) := by
  intro l
  induction l with
  | nil => intro k i o a _ h; simp at h
  | cons o' r ih =>
    intro k i o a hap h hd hon hs
    simp only [apartAll, Bool.and_eq_true] at hap
    rcases i with _ | i
    · simp at h
      subst h
      show (fillL vs on r (k + 1) (if on k = true then a.put o'.dst (vs k) else a)).eval (.tmp s) = _
      have e3 : on k = true := hon
      rw [if_pos e3, fillL_other vs on s r (k + 1) _ (by rw [← hd]; exact hap.1), hd]
      exact eval_put_same hs
    · show (fillL vs on r (k + 1) (if on k = true then a.put o'.dst (vs k) else a)).eval (.tmp s) = _
      rw [show k + (i + 1) = k + 1 + i by omega]
      refine ih (k + 1) i o _ hap.2 (by simpa using h) hd (by rw [show k + 1 + i = k + (i + 1) by omega]; exact hon) ?_
      split
      · rw [size_put]; exact hs
      · exact hs

/-- What an operation may take as known: what stood in the frame where no operation of the region writes, and of those that it waits for that their values are as they are to be. -/
structure Known (ops : Array Oper) (T : Nat → World → Value → Prop) (a0 : Act) (o : Oper) (a : Act) (w : World) : Prop where
  old : ∀ s, freeOf (some s) ops.toList = true → a.eval (.tmp s) = a0.eval (.tmp s)
  dep : ∀ e ∈ o.after, Region.binds .any e = true → ∀ oj s, ops[e.on]? = some oj → oj.dst = some s → s < a0.tmps.size → T e.on w (a.eval (.tmp s))
/-- One operation's part. -/
def Ob (P : Program) (ops : Array Oper) (Q : Exit → Act → World → Prop) (C : World → Prop) (R : World → World → Prop) (T : Nat → World → Value → Prop) (a0 : Act) (i : Nat) (o : Oper) : Prop :=
  o.guard = none ∧ ∀ a w, C w → Known ops T a0 o a w → o.wp P a w (fun a' w' => ∃ v, a' = a.put o.dst v ∧ C w' ∧ R w w' ∧ T i w' v) Q
def ObAll (P : Program) (ops : Array Oper) (Q : Exit → Act → World → Prop) (C : World → Prop) (R : World → World → Prop) (T : Nat → World → Value → Prop) (a0 : Act) : List Oper → Nat → Prop
  | [], _ => True
  | o :: r, k => Ob P ops Q C R T a0 k o ∧ ObAll P ops Q C R T a0 r (k + 1)
theorem ObAll.get {C : World → Prop} {R : World → World → Prop} {T : Nat → World → Value → Prop} {a0 : Act} : ∀ (l : List Oper) (k i : Nat) (o : Oper), ObAll P ops Q C R T a0 l k → l[i]? = some o → Ob P ops Q C R T a0 (k + i) o := by
  intro l
  induction l with
  | nil => intro k i o _ h; simp at h
  | cons o' r ih =>
    intro k i o hall h
    rcases i with _ | i
    · simp at h; subst h; exact hall.1
    · rw [show k + (i + 1) = k + 1 + i by omega]
      exact ih (k + 1) i o hall.2 (by simpa using h)
/-- Each waits for earlier ones alone. -/
def backB : List Oper → Nat → Bool
  | [], _ => true
  | o :: r, k => o.after.all (fun e => !Region.binds .any e || decide (e.on < k)) && backB r (k + 1)
theorem backB_get : ∀ (l : List Oper) (k i : Nat) (o : Oper), backB l k = true → l[i]? = some o → ∀ e ∈ o.after, Region.binds .any e = true → e.on < k + i := by
  intro l
  induction l with
  | nil => intro k i o _ h; simp at h
  | cons o' r ih =>
    intro k i o hall h e he hb
    simp only [backB, Bool.and_eq_true] at hall
    rcases i with _ | i
    · simp at h
      subst h
      have := (Array.all_eq_true_iff_forall_mem.1 hall.1) e he
      simpa [hb] using this
    · have := ih (k + 1) i o hall.2 (by simpa using h) e he hb
      omega
theorem fillL_all (vs : Nat → Value) (on : Nat → Bool) : ∀ (l : List Oper) (k : Nat) (a : Act), (∀ j, k ≤ j → j < k + l.length → on j = true) → fillL vs on l k a = fillL vs (fun _ => true) l k a := by
  intro l
  induction l with
  | nil => intro k a h; rfl
  | cons o r ih =>
    intro k a h
    show fillL vs on r (k + 1) (if on k = true then a.put o.dst (vs k) else a) = fillL vs (fun _ => true) r (k + 1) (if true = true then a.put o.dst (vs k) else a)
    rw [if_pos (h k (Nat.le_refl _) (by simp)), if_pos rfl, ih (k + 1) _ (fun j h1 h2 => h j (by omega) (by simp at *; omega))]
theorem wp_region_anyord {id : Nat} {a0 : Act} {w : World} (C : World → Prop) (R : World → World → Prop) (T : Nat → World → Value → Prop) (hm : P.follows .mixedOrders = true)
    (hap : apartAll ops.toList = true) (hbk : backB ops.toList 0 = true)
    (hst : ∀ j w w' v, R w w' → T j w v → T j w' v) (hC : C { w with drawn := w.drawn + 1 })
    (hob : ObAll P ops Q C R T a0 ops.toList 0)
    (hQ : ∀ vs w', C w' → (∀ i, i < ops.size → T i w' (vs i)) → Q .normal (fillL vs (fun _ => true) ops.toList 0 a0) w') : (Code.region id ops true).wp P Q a0 w := by
  refine wp_region_any hm (wpAny_of_inv (Inv := fun listed a w => listed.size = ops.size ∧ C w ∧ ∃ vs, a = fillL vs (fun j => listed.getD j false) ops.toList 0 a0 ∧ ∀ i, listed.getD i false = true → T i w (vs i)) ?_ ?_ _ _ _ _ ⟨by simp, hC, fun _ => undef, ?_, ?_⟩ ?_)
  · intro listed a w i ⟨hsz, hCw, vs, ha, hT⟩ hi
    obtain ⟨hun, o, ho, hdeps⟩ := mem_ready.1 hi
    have hil : i < ops.size := (Array.getElem?_eq_some_iff.1 ho).1
    have hol : ops.toList[i]? = some o := by rw [Array.getElem?_toList]; exact ho
    have hunf : listed.getD i false = false := by
      have h1 : i < listed.size := by omega
      simp [h1] at hun ⊢
      exact hun
    have hObi := hob.get ops.toList 0 i o hol
    rw [Nat.zero_add] at hObi
    obtain ⟨hg, hwp⟩ := hObi
    have hK : Known ops T a0 o a w := by
      refine ⟨fun s hs => by rw [ha]; exact fillL_other vs _ s _ 0 a0 hs, fun e he hbe oj s hoj hd hs => ?_⟩
      have hl := hdeps e he hbe
      have := fillL_at vs (fun j => listed.getD j false) s ops.toList 0 e.on oj a0 hap (by rw [Array.getElem?_toList]; exact hoj) hd (by rw [Nat.zero_add]; exact hl) hs
      rw [Nat.zero_add] at this
      rw [ha, this]
      exact hT e.on hl
    unfold wpOp
    rw [ho]
    have hw : Region.wanted o (yielded ops a.tmps) = true := by simp [Region.wanted, hg]
    simp only [hw, if_true]
    refine .inl (Oper.wp_mono (fun a' w' ⟨v, ha', hC', hR, hTv⟩ => ?_) (hwp a w hCw hK))
    refine ⟨by simpa using hsz, hC', upd vs i v, ?_, fun j hj => ?_⟩
    · have hs := fillL_step vs (fun j => listed.getD j false) v ops.toList 0 i o a0 hap hol (by rw [Nat.zero_add]; exact hunf)
      rw [Nat.zero_add] at hs
      rw [ha', ha, ← hs]
      refine fillL_congr _ 0 _ fun j _ => ⟨?_, fun _ => rfl⟩
      unfold upd
      by_cases hj : j = i
      · subst hj
        have h1 : j < listed.size := by omega
        simp [h1]
      · rw [if_neg hj]
        simp [Array.getD_eq_getD_getElem?, Ne.symm hj]
    · by_cases hji : j = i
      · subst hji; simpa [upd] using hTv
      · have h2 : listed.getD j false = true := by
          simpa [Array.getD_eq_getD_getElem?, Array.getElem?_setIfInBounds, Ne.symm hji] using hj
        have := hst j w w' _ hR (hT j h2)
        simpa [upd, hji] using this
  · intro listed a w ⟨hsz, hCw, vs, ha, hT⟩ h0
    have hall : ∀ n j, j < n → j < ops.size → listed.getD j false = true := by
      intro n
      induction n with
      | zero => intro j h; omega
      | succ n ih =>
        intro j hj hjs
        rcases Nat.lt_or_ge j n with h1 | h1
        · exact ih j h1 hjs
        obtain rfl : j = n := by omega
        cases hl : listed.getD j false with
        | true => rfl
        | false =>
          exfalso
          have hmem : j ∈ Region.ready .any ops listed := by
            refine mem_ready.2 ⟨?_, ops[j], Array.getElem?_eq_getElem hjs, fun e he hbe => ?_⟩
            · have h1 : j < listed.size := by omega
              simp [h1] at hl ⊢
              exact hl
            · have := backB_get ops.toList 0 j ops[j] hbk (by rw [Array.getElem?_toList]; exact Array.getElem?_eq_getElem hjs) e he hbe
              exact ih e.on (by omega) (by omega)
          rw [h0] at hmem
          cases hmem
    rw [ha, fillL_all vs _ ops.toList 0 a0 (fun j _ h => hall ops.size j (by simpa using h) (by simpa using h))]
    exact hQ vs w hCw fun i hi => hT i (hall ops.size i hi hi)
  · symm
    have : ∀ (l : List Oper) k, fillL (fun _ => undef) (fun j => (Array.replicate ops.size false).getD j false) l k a0 = a0 := by
      intro l
      induction l with
      | nil => intro k; rfl
      | cons o r ih =>
        intro k
        show fillL _ _ r (k + 1) (if (Array.replicate ops.size false).getD k false = true then _ else a0) = a0
        rw [if_neg (by simp [Array.getD_eq_getD_getElem?, Array.getElem?_replicate]; split <;> simp)]
        exact ih (k + 1)
    exact this _ _
  · intro i hi
    exfalso
    simp [Array.getD_eq_getD_getElem?, Array.getElem?_replicate] at hi
    split at hi <;> simp at hi
  · have : (Array.replicate ops.size false).toList.count false = ops.size := by simp
    omega
end
end Go.Proofs.Ytpolpkheaibonaa
