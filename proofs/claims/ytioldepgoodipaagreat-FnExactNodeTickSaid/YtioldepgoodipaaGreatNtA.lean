/- Several texts in one, each with its own head: what is proved, and of what, stands there. -/
import Derived.Test.YtioldepgoodipaaGreatJoined
import Derived.Handy
import Derived.Lib.SmallJoins
import Derived.Deep.RegionHeld3
import Derived.Test.YtioldepgoodipaaGreatCansTo
import Derived.Test.YtioldepgoodipaaGreatNumsTo
import Derived.Lib.SliceRun
import Derived.Test.YtioldepgoodipaaGreatOwn
import Derived.Orders
import Derived.Deep.QuietTactic
import Derived.BigCall
import Derived.BigRegion
import Derived.Test.YtioldepgoodipaaGreatRsOwn
import Derived.Deep.AppendSrc
import Derived.Test.YtioldepgoodipaaGreatClaimRight
import Derived.Test.YtioldepgoodipaaGreatSesTick
import Derived.Test.YtioldepgoodipaaGreatGts
import Derived.Test.YtioldepgoodipaaGreatQuiet
import Derived.Test.YtioldepgoodipaaGreatDvs
import Derived.Test.YtioldepgoodipaaGreatNdTo
/- A Can that shares no memory with another one: the program's fresh. -/
namespace Go.Proofs.YtioldepgoodipaaGreat
open Go.RowKit
set_option linter.unusedVariables false

theorem joined_empty (s : ByteArray) : ByteArray.mk ((⟨#[]⟩ : ByteArray).data.toList ++ s.data.toList).toArray = s := by
  apply ByteArray.ext
  simp

set_option maxHeartbeats 2000000 in
theorem fresh_any (n : Int) (s : ByteArray) (w : World) (hs : s.size ≤ 1000000) :
    Calls Tryz.prog 203 #[.agg #[.int .i64 n, .string s]] w fun e w' => e = .returned (.agg #[.int .i64 n, .string s]) ∧ Below w.heap.size w w' := by
  have HJ := fun W => Lib.hid (joined_any ⟨#[]⟩ s W (by decide) hs)
  rw [joined_empty] at HJ
  go_enter Tryz.func203, Tryz.ntmps203
  go_wp2_with fail
  go_region_with (go_at_call 170; refine (HJ _).out.mono ?_; rintro e w1 ⟨rfl, h1⟩; obtain ⟨c1, f1⟩ := bcell h1; have z1 : w.heap.size < w1.heap.size := (by have := h1.size; simp at this; omega); have z2 : w.heap.size + 1 < w1.heap.size := (by have := h1.size; simp at this; omega))
  all_goals
    go_wp2
    exact bodyPost_ret (v := .agg #[.int .i64 n, .string s]) (by simp [results, Tryz.results203, go_sem, c1]) rfl
      ⟨rfl, ((((((Below.refl _ _).alloc (Nat.le_refl _) _).alloc (by simp) _).drew).trans (h1.mono (by simp; omega))).setCell (by simp) _).setCell (by simp) _⟩

end Go.Proofs.YtioldepgoodipaaGreat
/- The Queue of what waits, in new memory: the program's freshQueue. Nothing that was there is written. -/
namespace Go.Proofs.YtioldepgoodipaaGreat
open Go.RowKit Go.Joins
set_option linter.unusedVariables false

/-- Texts that are not too long. -/
def CansSmall (l : List (Int × ByteArray)) : Prop := ∀ x ∈ l, x.2.size ≤ 1000000
theorem CansSmall.at {l : List (Int × ByteArray)} (h : CansSmall l) {i : Nat} (hi : i < l.length) : (canAt l i).2.size ≤ 1000000 := h _ (List.mem_of_getElem? (canAt_some hi))
theorem CansSmall.of_all {l : List (Int × ByteArray)} (h : allB l = true) : CansSmall l := by
  intro x hx
  unfold allB at h
  rw [List.all_eq_true] at h
  have := h x hx
  unfold canB at this
  simp at this
  omega

end Go.Proofs.YtioldepgoodipaaGreat
/- A copy of some numbers in new memory: slices.Clone. Nothing that was there is written. -/
namespace Go.Proofs.YtioldepgoodipaaGreat
open Go.RowKit Go.Joins
set_option linter.unusedVariables false

set_option maxRecDepth 100000 in
set_option maxHeartbeats 2000000 in
theorem clone_any (a : Option Addr) (cap : Nat) (l : List Int) (w : World) (h : NumsIn w a l) (hlen : l.length ≤ 1048576) :
    Calls Tryz.prog 147 #[.slice a l.length cap] w fun e w' => ∃ v, e = .returned v ∧ w'.ownsRow w.heap.size 2 1 v l.length (ncells l) ∧ Below w.heap.size w w' := by
  obtain ⟨i0, hi, hz0, hz1, hz2⟩ := info_parts NumsTo.info
  obtain ⟨N, hN⟩ : ∃ N, l.length = N := ⟨_, rfl⟩
  have HNl := Lib.hid hN
  rw [hN] at hlen ⊢
  clear hN
  have HI := Lib.hid h
  clear h
  rcases a with _ | ⟨b, o, sp⟩
  · have hl : l = [] := by
      rcases HI.out with h | ⟨b, o', h', _⟩
      · exact h
      · cases h'
    obtain rfl : N = 0 := by rw [← HNl.out, hl]; rfl
    subst hl
    clear HI HNl
    have hq := fun W : World => Lib.run_eql_slice_nil (P := Tryz.prog) W 24 2 none 0 cap 0 0 Tryz.underlying24
    go_enter Tryz.func147, Tryz.ntmps147
    go_wp2
    go_ret
    exact ⟨_, rfl, World.ownsRow_nil _ _ _ _, Below.refl _ _⟩
  have HO0 := Lib.hid (show (w.alloc (.cells #[] 2)).ownsRow w.heap.size 2 1 (.slice (some ⟨w.heap.size, 0, none⟩) 0 0) 0 [] from World.ownsRow_lit w #[] 0 (Nat.le_refl _) (by unfold maxLen; omega) rfl)
  have HB0 := Lib.hid ((Below.refl w.heap.size w).alloc (Nat.le_refl _) (.cells #[] 2))
  have hq := fun W : World => Lib.run_eql_slice_nil (P := Tryz.prog) W 24 2 (some ⟨b, o, sp⟩) N cap 0 0 Tryz.underlying24
  go_enter Tryz.func147, Tryz.ntmps147
  go_wp2_with (at_builtin; refine wpList_append_nums rfl (.tmp 5) (.tmp 6) 24 rfl w.heap.size 2 i0 (.int .i64 0) 8 Tryz.underlying24 hi hz0 hz1 hz2 rfl _ 0 [] rfl HO0.out (some ⟨b, o, sp⟩) cap l N HNl.out (by rfl) (HI.out.kept HB0.out) (by unfold maxLen; omega) (by omega) (by simp) ?_; intro v2 w2 hown2 hg2; have HO2 := Lib.hid (show w2.ownsRow w.heap.size 2 1 v2 N (ncells l) from (by simpa using hown2)); have b2 : Below w.heap.size w w2 := HB0.out.grown hg2 (by simp) (fun q hq => (World.ownsRow.lt HO0.out q hq).1); clear hown2 hg2)
  go_ret
  exact ⟨_, rfl, HO2.out, b2⟩
end Go.Proofs.YtioldepgoodipaaGreat
/- A region that draws its order, by what is known of each operation's value and of the world, whatever order comes: for operations without a guard, each with a place of its own for its value. -/
namespace Go.Proofs.YtioldepgoodipaaGreat
open Go.RowKit
set_option linter.unusedVariables false

section
variable {P : Program} {ops : Array Oper} {Q : Exit → Act → World → Prop}
theorem count_set (l : List Bool) : ∀ i, l[i]? = some false → (l.set i true).count false + 1 = l.count false := by
  induction l with
  | nil => intro i h; simp at h
  | cons b r ih =>
    intro i h
    rcases i with _ | i
    · simp at h
      subst h
      simp
    · have := ih i (by simpa using h)
      cases b <;> simp <;> omega
theorem wpAny_of_inv {Inv : Array Bool → Act → World → Prop}
    (hstep : ∀ listed a w i, Inv listed a w → i ∈ Region.ready .any ops listed → wpOp P ops Q i (fun a' w' => Inv (listed.setIfInBounds i true) a' w') a w)
    (hend : ∀ listed a w, Inv listed a w → Region.ready .any ops listed = [] → Q .normal a w) :
    ∀ (fuel : Nat) (listed : Array Bool) (a : Act) (w : World), Inv listed a w → listed.toList.count false ≤ fuel → wpAny P .any ops Q fuel listed a w := by
  have hready : ∀ (listed : Array Bool) i, i ∈ Region.ready .any ops listed → listed.toList[i]? = some false := by
    intro listed i hi
    have h := (mem_ready.1 hi).1
    rw [Array.getElem?_toList]
    rcases Nat.lt_or_ge i listed.size with h1 | h1
    · rw [Array.getElem?_eq_getElem h1]
      simp [h1] at h
      rw [h]
    · simp [Array.getElem?_eq_none h1] at h
  intro fuel
  induction fuel with
  | zero =>
    intro listed a w h hc
    have h0 : Region.ready .any ops listed = [] := by
      apply List.eq_nil_iff_forall_not_mem.2
      intro i hi
      have := hready listed i hi
      have h2 := List.count_eq_zero.1 (Nat.le_zero.1 hc)
      exact h2 (List.mem_of_getElem? this)
    exact ⟨h0, hend listed a w h h0⟩
  | succ fuel ih =>
    intro listed a w h hc
    refine ⟨fun h0 => hend listed a w h h0, fun i hi => ?_⟩
    refine wpOp_mono (fun a' w' h' => ih _ a' w' h' ?_) (hstep listed a w i h hi)
    have := count_set listed.toList i (hready listed i hi)
    rw [Array.toList_setIfInBounds]
    omega

/-- The frame with the values of those operations that have come up. -/
def fillL (vs : Nat → Value) (on : Nat → Bool) : List Oper → Nat → Act → Act
  | [], _, a => a
  | o :: r, k, a => fillL vs on r (k + 1) (if on k = true then a.put o.dst (vs k) else a)
/-- No two have one place, and this place is none of them. -/
def freeOf (d : Option Tmp) : List Oper → Bool
  | [] => true
  | o :: r => (match d, o.dst with | some x, some y => x != y | _, _ => true) && freeOf d r
def apartAll : List Oper → Bool
  | [] => true
  | o :: r => freeOf o.dst r && apartAll r
theorem freeOf_cons {d : Option Tmp} {o : Oper} {r : List Oper} (h : freeOf d (o :: r) = true) : (∀ x, d = some x → o.dst ≠ some x) ∧ freeOf d r = true := by
  simp only [freeOf, Bool.and_eq_true] at h
  refine ⟨fun x hx ho => ?_, h.2⟩
  subst hx
  rw [ho] at h
  simp at h
theorem fillL_put (vs : Nat → Value) (on : Nat → Bool) (d : Option Tmp) (v : Value) : ∀ (l : List Oper) (k : Nat) (a : Act), freeOf d l = true → fillL vs on l k (a.put d v) = (fillL vs on l k a).put d v := by
  intro l
  induction l with
  | nil => intro k a h; rfl
  | cons o r ih =>
    intro k a h
    obtain ⟨h1, h2⟩ := freeOf_cons h
    show fillL vs on r (k + 1) (if on k = true then (a.put d v).put o.dst (vs k) else a.put d v) = (fillL vs on r (k + 1) (if on k = true then a.put o.dst (vs k) else a)).put d v
    split
    · rw [Act.put_comm a v (vs k) h1, ih _ _ h2]
    · rw [ih _ _ h2]
theorem fillL_congr {vs vs' : Nat → Value} {on on' : Nat → Bool} : ∀ (l : List Oper) (k : Nat) (a : Act), (∀ j, k ≤ j → on j = on' j ∧ (on j = true → vs j = vs' j)) → fillL vs on l k a = fillL vs' on' l k a := by
  intro l
  induction l with
  | nil => intro k a h; rfl
  | cons o r ih =>
    intro k a h
    show fillL vs on r (k + 1) (if on k = true then a.put o.dst (vs k) else a) = fillL vs' on' r (k + 1) (if on' k = true then a.put o.dst (vs' k) else a)
    obtain ⟨h1, h2⟩ := h k (Nat.le_refl _)
    rw [ih (k + 1) _ (fun j hj => h j (by omega)), ← h1]
    split
    · rename_i hk; rw [h2 hk]
    · rfl
def upd {α : Type} (f : Nat → α) (i : Nat) (x : α) (j : Nat) : α := if j = i then x else f j
theorem fillL_step (vs : Nat → Value) (on : Nat → Bool) (v : Value) : ∀ (l : List Oper) (k i : Nat) (o : Oper) (a : Act), apartAll l = true → l[i]? = some o → on (k + i) = false →
    fillL (upd vs (k + i) v) (upd on (k + i) true) l k a = (fillL vs on l k a).put o.dst v := by
  intro l
  induction l with
  | nil => intro k i o a _ h; simp at h
  | cons o' r ih =>
    intro k i o a hap h hon
    simp only [apartAll, Bool.and_eq_true] at hap
    rcases i with _ | i
    · simp at h
      subst h
      show fillL (upd vs (k + 0) v) (upd on (k + 0) true) r (k + 1) (if upd on (k + 0) true k = true then a.put o'.dst (upd vs (k + 0) v k) else a) = (fillL vs on r (k + 1) (if on k = true then a.put o'.dst (vs k) else a)).put o'.dst v
      have e1 : upd on (k + 0) true k = true := by simp [upd]
      have e2 : upd vs (k + 0) v k = v := by simp [upd]
      have e3 : on k = false := hon
      rw [if_pos e1, e2, e3, if_neg (by simp), ← fillL_put vs on o'.dst v r (k + 1) a hap.1]
      refine fillL_congr r (k + 1) _ fun j hj => ?_
      have hne : j ≠ k + 0 := by omega
      unfold upd
      rw [if_neg hne, if_neg hne]
      exact ⟨rfl, fun _ => rfl⟩
    · show fillL (upd vs (k + (i + 1)) v) (upd on (k + (i + 1)) true) r (k + 1) (if upd on (k + (i + 1)) true k = true then a.put o'.dst (upd vs (k + (i + 1)) v k) else a) = (fillL vs on r (k + 1) (if on k = true then a.put o'.dst (vs k) else a)).put o.dst v
      have e1 : upd on (k + (i + 1)) true k = on k := by unfold upd; rw [if_neg (by omega)]
      have e2 : upd vs (k + (i + 1)) v k = vs k := by unfold upd; rw [if_neg (by omega)]
      rw [e1, e2, show k + (i + 1) = k + 1 + i by omega]
      exact ih (k + 1) i o _ hap.2 (by simpa using h) (by rw [show k + 1 + i = k + (i + 1) by omega]; exact hon)
theorem eval_put_other {a : Act} {d : Option Tmp} {v : Value} {s : Nat} (h : d ≠ some s) : (a.put d v).eval (.tmp s) = a.eval (.tmp s) := by
  cases d with
  | none => rfl
  | some x =>
    have hx : x ≠ s := fun e => h (by rw [e])
    show (a.tmps.setIfInBounds x v).getD s undef = a.tmps.getD s undef
    simp [Array.getD_eq_getD_getElem?, hx]
theorem eval_put_same {a : Act} {v : Value} {s : Nat} (h : s < a.tmps.size) : (a.put (some s) v).eval (.tmp s) = v := by
  show (a.tmps.setIfInBounds s v).getD s undef = v
  simp [Array.getD_eq_getD_getElem?, h]
theorem size_put (a : Act) (d : Option Tmp) (v : Value) : (a.put d v).tmps.size = a.tmps.size := by
  cases d with
  | none => rfl
  | some x => simp [Act.put]
theorem fillL_other (vs : Nat → Value) (on : Nat → Bool) (s : Nat) : ∀ (l : List Oper) (k : Nat) (a : Act), freeOf (some s) l = true → (fillL vs on l k a).eval (.tmp s) = a.eval (.tmp s) := by
  intro l
  induction l with
  | nil => intro k a h; rfl
  | cons o r ih =>
    intro k a h
    obtain ⟨h1, h2⟩ := freeOf_cons h
    show (fillL vs on r (k + 1) (if on k = true then a.put o.dst (vs k) else a)).eval (.tmp s) = _
    rw [ih _ _ h2]
    split
    · exact eval_put_other (h1 s rfl)
    · rfl
theorem fillL_at (vs : Nat → Value) (on : Nat → Bool) (s : Nat) : ∀ (l : List Oper) (k i : Nat) (o : Oper) (a : Act), apartAll l = true → l[i]? = some o → o.dst = some s → on (k + i) = true → s < a.tmps.size → (fillL vs on l k a).eval (.tmp s) = vs (k + i) := by
  intro l
  induction l with
  | nil => intro k i o a _ h; simp at h
  | cons o' r ih =>
    intro k i o a hap h hd hon hs
    simp only [apartAll, Bool.and_eq_true] at hap
    rcases i with _ | i
    · simp at h
      subst h
      show (fillL vs on r (k + 1) (if on k = true then a.put o'.dst (vs k) else a)).eval (.tmp s) = _
      have e3 : on k = true := hon
      rw [if_pos e3, fillL_other vs on s r (k + 1) _ (by rw [← hd]; exact hap.1), hd]
      exact eval_put_same hs
    · show (fillL vs on r (k + 1) (if on k = true then a.put o'.dst (vs k) else a)).eval (.tmp s) = _
      rw [show k + (i + 1) = k + 1 + i by omega]
      refine ih (k + 1) i o _ hap.2 (by simpa using h) hd (by rw [show k + 1 + i = k + (i + 1) by omega]; exact hon) ?_
      split
      · rw [size_put]; exact hs
      · exact hs

/-- What an operation may take as known: what stood in the frame where no operation of the region writes, and of those that it waits for that their values are as they are to be. -/
structure Known (ops : Array Oper) (T : Nat → World → Value → Prop) (a0 : Act) (o : Oper) (a : Act) (w : World) : Prop where
  old : ∀ s, freeOf (some s) ops.toList = true → a.eval (.tmp s) = a0.eval (.tmp s)
  dep : ∀ e ∈ o.after, Region.binds .any e = true → ∀ oj s, ops[e.on]? = some oj → oj.dst = some s → s < a0.tmps.size → T e.on w (a.eval (.tmp s))
/-- One operation's part. -/
def Ob (P : Program) (ops : Array Oper) (Q : Exit → Act → World → Prop) (C : World → Prop) (R : World → World → Prop) (T : Nat → World → Value → Prop) (a0 : Act) (i : Nat) (o : Oper) : Prop :=
  o.guard = none ∧ ∀ a w, C w → Known ops T a0 o a w → o.wp P a w (fun a' w' => ∃ v, a' = a.put o.dst v ∧ C w' ∧ R w w' ∧ T i w' v) Q
def ObAll (P : Program) (ops : Array Oper) (Q : Exit → Act → World → Prop) (C : World → Prop) (R : World → World → Prop) (T : Nat → World → Value → Prop) (a0 : Act) : List Oper → Nat → Prop
  | [], _ => True
  | o :: r, k => Ob P ops Q C R T a0 k o ∧ ObAll P ops Q C R T a0 r (k + 1)
theorem ObAll.get {C : World → Prop} {R : World → World → Prop} {T : Nat → World → Value → Prop} {a0 : Act} : ∀ (l : List Oper) (k i : Nat) (o : Oper), ObAll P ops Q C R T a0 l k → l[i]? = some o → Ob P ops Q C R T a0 (k + i) o := by
  intro l
  induction l with
  | nil => intro k i o _ h; simp at h
  | cons o' r ih =>
    intro k i o hall h
    rcases i with _ | i
    · simp at h; subst h; exact hall.1
    · rw [show k + (i + 1) = k + 1 + i by omega]
      exact ih (k + 1) i o hall.2 (by simpa using h)
/-- Each waits for earlier ones alone. -/
def backB : List Oper → Nat → Bool
  | [], _ => true
  | o :: r, k => o.after.all (fun e => !Region.binds .any e || decide (e.on < k)) && backB r (k + 1)
theorem backB_get : ∀ (l : List Oper) (k i : Nat) (o : Oper), backB l k = true → l[i]? = some o → ∀ e ∈ o.after, Region.binds .any e = true → e.on < k + i := by
  intro l
  induction l with
  | nil => intro k i o _ h; simp at h
  | cons o' r ih =>
    intro k i o hall h e he hb
    simp only [backB, Bool.and_eq_true] at hall
    rcases i with _ | i
    · simp at h
      subst h
      have := (Array.all_eq_true_iff_forall_mem.1 hall.1) e he
      simpa [hb] using this
    · have := ih (k + 1) i o hall.2 (by simpa using h) e he hb
      omega
theorem fillL_all (vs : Nat → Value) (on : Nat → Bool) : ∀ (l : List Oper) (k : Nat) (a : Act), (∀ j, k ≤ j → j < k + l.length → on j = true) → fillL vs on l k a = fillL vs (fun _ => true) l k a := by
  intro l
  induction l with
  | nil => intro k a h; rfl
  | cons o r ih =>
    intro k a h
    show fillL vs on r (k + 1) (if on k = true then a.put o.dst (vs k) else a) = fillL vs (fun _ => true) r (k + 1) (if true = true then a.put o.dst (vs k) else a)
    rw [if_pos (h k (Nat.le_refl _) (by simp)), if_pos rfl, ih (k + 1) _ (fun j h1 h2 => h j (by omega) (by simp at *; omega))]
theorem wp_region_anyord {id : Nat} {a0 : Act} {w : World} (C : World → Prop) (R : World → World → Prop) (T : Nat → World → Value → Prop) (hm : P.follows .mixedOrders = true)
    (hap : apartAll ops.toList = true) (hbk : backB ops.toList 0 = true)
    (hst : ∀ j w w' v, R w w' → T j w v → T j w' v) (hC : C { w with drawn := w.drawn + 1 })
    (hob : ObAll P ops Q C R T a0 ops.toList 0)
    (hQ : ∀ vs w', C w' → (∀ i, i < ops.size → T i w' (vs i)) → Q .normal (fillL vs (fun _ => true) ops.toList 0 a0) w') : (Code.region id ops true).wp P Q a0 w := by
  refine wp_region_any hm (wpAny_of_inv (Inv := fun listed a w => listed.size = ops.size ∧ C w ∧ ∃ vs, a = fillL vs (fun j => listed.getD j false) ops.toList 0 a0 ∧ ∀ i, listed.getD i false = true → T i w (vs i)) ?_ ?_ _ _ _ _ ⟨by simp, hC, fun _ => undef, ?_, ?_⟩ ?_)
  · intro listed a w i ⟨hsz, hCw, vs, ha, hT⟩ hi
    obtain ⟨hun, o, ho, hdeps⟩ := mem_ready.1 hi
    have hil : i < ops.size := (Array.getElem?_eq_some_iff.1 ho).1
    have hol : ops.toList[i]? = some o := by rw [Array.getElem?_toList]; exact ho
    have hunf : listed.getD i false = false := by
      have h1 : i < listed.size := by omega
      simp [h1] at hun ⊢
      exact hun
    have hObi := hob.get ops.toList 0 i o hol
    rw [Nat.zero_add] at hObi
    obtain ⟨hg, hwp⟩ := hObi
    have hK : Known ops T a0 o a w := by
      refine ⟨fun s hs => by rw [ha]; exact fillL_other vs _ s _ 0 a0 hs, fun e he hbe oj s hoj hd hs => ?_⟩
      have hl := hdeps e he hbe
      have := fillL_at vs (fun j => listed.getD j false) s ops.toList 0 e.on oj a0 hap (by rw [Array.getElem?_toList]; exact hoj) hd (by rw [Nat.zero_add]; exact hl) hs
      rw [Nat.zero_add] at this
      rw [ha, this]
      exact hT e.on hl
    unfold wpOp
    rw [ho]
    have hw : Region.wanted o (yielded ops a.tmps) = true := by simp [Region.wanted, hg]
    simp only [hw, if_true]
    refine .inl (Oper.wp_mono (fun a' w' ⟨v, ha', hC', hR, hTv⟩ => ?_) (hwp a w hCw hK))
    refine ⟨by simpa using hsz, hC', upd vs i v, ?_, fun j hj => ?_⟩
    · have hs := fillL_step vs (fun j => listed.getD j false) v ops.toList 0 i o a0 hap hol (by rw [Nat.zero_add]; exact hunf)
      rw [Nat.zero_add] at hs
      rw [ha', ha, ← hs]
      refine fillL_congr _ 0 _ fun j _ => ⟨?_, fun _ => rfl⟩
      unfold upd
      by_cases hj : j = i
      · subst hj
        have h1 : j < listed.size := by omega
        simp [h1]
      · rw [if_neg hj]
        simp [Array.getD_eq_getD_getElem?, Ne.symm hj]
    · by_cases hji : j = i
      · subst hji; simpa [upd] using hTv
      · have h2 : listed.getD j false = true := by
          simpa [Array.getD_eq_getD_getElem?, Array.getElem?_setIfInBounds, Ne.symm hji] using hj
        have := hst j w w' _ hR (hT j h2)
        simpa [upd, hji] using this
  · intro listed a w ⟨hsz, hCw, vs, ha, hT⟩ h0
    have hall : ∀ n j, j < n → j < ops.size → listed.getD j false = true := by
      intro n
      induction n with
      | zero => intro j h; omega
      | succ n ih =>
        intro j hj hjs
        rcases Nat.lt_or_ge j n with h1 | h1
        · exact ih j h1 hjs
        obtain rfl : j = n := by omega
        cases hl : listed.getD j false with
        | true => rfl
        | false =>
          exfalso
          have hmem : j ∈ Region.ready .any ops listed := by
            refine mem_ready.2 ⟨?_, ops[j], Array.getElem?_eq_getElem hjs, fun e he hbe => ?_⟩
            · have h1 : j < listed.size := by omega
              simp [h1] at hl ⊢
              exact hl
            · have := backB_get ops.toList 0 j ops[j] hbk (by rw [Array.getElem?_toList]; exact Array.getElem?_eq_getElem hjs) e he hbe
              exact ih e.on (by omega) (by omega)
          rw [h0] at hmem
          cases hmem
    rw [ha, fillL_all vs _ ops.toList 0 a0 (fun j _ h => hall ops.size j (by simpa using h) (by simpa using h))]
    exact hQ vs w hCw fun i hi => hT i (hall ops.size i hi hi)
  · symm
    have : ∀ (l : List Oper) k, fillL (fun _ => undef) (fun j => (Array.replicate ops.size false).getD j false) l k a0 = a0 := by
      intro l
      induction l with
      | nil => intro k; rfl
      | cons o r ih =>
        intro k
        show fillL _ _ r (k + 1) (if (Array.replicate ops.size false).getD k false = true then _ else a0) = a0
        rw [if_neg (by simp [Array.getD_eq_getD_getElem?, Array.getElem?_replicate]; split <;> simp)]
        exact ih (k + 1)
    exact this _ _
  · intro i hi
    exfalso
    simp [Array.getD_eq_getD_getElem?, Array.getElem?_replicate] at hi
    split at hi <;> simp at hi
  · have : (Array.replicate ops.size false).toList.count false = ops.size := by simp
    omega
end
end Go.Proofs.YtioldepgoodipaaGreat
/- What an operation of a region in any order is to show: a value, a store, a call; rows of numbers that are laid down and picked from. -/
namespace Go.Proofs.YtioldepgoodipaaGreat
open Go.RowKit
set_option linter.unusedVariables false

section
variable {P : Program} {o : Oper} {a : Act} {w : World} {K : Act → World → Prop} {Q : Exit → Act → World → Prop}
theorem ob_value {v : Value} {w' : World} (h : (execOp a.eval o).run P w = .ok (.value v) w') (hk : K (a.put o.dst v) w') : o.wp P a w K Q := by
  unfold Oper.wp
  rw [h]
  exact hk
theorem ob_skip {w' : World} (h : (execOp a.eval o).run P w = .ok .skip w') (hk : K (a.put o.dst undef) w') : o.wp P a w K Q := by
  unfold Oper.wp
  rw [h]
  exact hk
theorem ob_move {x : Operand} (ho : o.op = .move x) (hk : K (a.put o.dst (a.eval x)) w) : o.wp P a w K Q := ob_value (BigFrame.run_move x ho w) hk
theorem ob_call {f : FuncId} {fn : Func} {xs : Array Operand} {ats : Array TypeId} {vals : Array Value} (ho : o.op = .call { callee := .value (.func f), args := xs, argTypes := ats })
    (hf : P.funcs[f]? = some fn) (hn : (fn.name == "runtime.NumGoroutine") = false) (hb : fn.body.isNone = false) (hv : xs.map a.eval = vals)
    (h : Calls P f vals w fun e w' => ∃ v, e = .returned v ∧ K (a.put o.dst v) w') : o.wp P a w K Q := by
  obtain ⟨dst, op, type, pos, after, guard⟩ := o
  simp only at ho
  subst ho
  unfold Oper.wp
  have hrun : (execOp a.eval { dst, op := .call { callee := .value (.func f), args := xs, argTypes := ats }, type := type, pos, after, guard }).run P w = .ok (.enter f vals) w := by
    rw [execOp_call_go, hv]
    have hn' : ¬ fn.name = "runtime.NumGoroutine" := by simpa using hn
    have hb' : ¬ fn.body = none := by
      intro q
      rw [q] at hb
      simp at hb
    unfold callFunc
    simp [hf, hn', hb']
  rw [hrun]
  exact h.mono fun e w' ⟨v, he, hk⟩ => by subst he; exact hk
end

/-- A number of some bounds, as a value. -/
def IsI (v : Value) : Prop := ∃ x : Int, v = .int .i64 x ∧ -9000000000 ≤ x ∧ x ≤ 9000000000
/-- A row of n numbers that lies elsewhere than block S. -/
def LitAt (T : TypeId) (S n : Nat) (lo hi : Int) (w : World) (v : Value) : Prop :=
  ∃ G row, v = .slice (some ⟨G, 0, none⟩) n n ∧ G ≠ S ∧ G < w.heap.size ∧ w.heap[G]? = some (.cells row T (0, 0)) ∧ ∀ k, k < n → ∃ x : Int, row[k]? = some (.int .i64 x) ∧ lo ≤ x ∧ x ≤ hi
/-- The address of one of its numbers. -/
def PickAt (T : TypeId) (S : Nat) (lo hi : Int) (w : World) (v : Value) : Prop :=
  ∃ G k row x, v = .pointer (some ⟨G, k, none⟩) ∧ G ≠ S ∧ G < w.heap.size ∧ w.heap[G]? = some (.cells row T (0, 0)) ∧ row[k]? = some (.int .i64 x) ∧ lo ≤ x ∧ x ≤ hi
theorem PickAt.cell {T : TypeId} {S : Nat} {lo hi : Int} {w : World} {v : Value} (h : PickAt T S lo hi w v) : ∃ p x, v = .pointer (some p) ∧ w.cell? p = some (.int .i64 x) ∧ lo ≤ x ∧ x ≤ hi := by
  obtain ⟨G, k, row, x, rfl, h1, h2, h3, h4, h5, h6⟩ := h
  exact ⟨⟨G, k, none⟩, x, rfl, (cell_of_row w G k row T (0, 0) h3).trans h4, h5, h6⟩

/-- What a region leaves that writes block S, and besides rows of which that is said alone. -/
def RStep (S : Nat) (F : World → Nat → Prop) (w w' : World) : Prop := w.heap.size ≤ w'.heap.size ∧ ∀ k, k < w.heap.size → k ≠ S → w'.heap[k]? = w.heap[k]? ∨ (F w k ∧ F w' k)
theorem RStep.grown {S : Nat} {F : World → Nat → Prop} {w w' : World} (h : w.grownBy w' (some S)) : RStep S F w w' :=
  ⟨h.size, fun k hk hne => .inl (h.block k hk fun e => hne (by simpa using e))⟩
theorem RStep.refl (S : Nat) (F : World → Nat → Prop) (w : World) : RStep S F w w := ⟨Nat.le_refl _, fun _ _ _ => .inl rfl⟩
theorem LitAt.kept {T : TypeId} {S n : Nat} {lo hi : Int} {F : World → Nat → Prop} {w w' : World} {v : Value} (hF : ∀ w k, F w k → ∀ row, w.heap[k]? ≠ some (.cells row T (0, 0))) (hR : RStep S F w w') (h : LitAt T S n lo hi w v) : LitAt T S n lo hi w' v := by
  obtain ⟨G, row, e, h1, h2, h3, h4⟩ := h
  refine ⟨G, row, e, h1, Nat.lt_of_lt_of_le h2 hR.1, ?_, h4⟩
  rcases hR.2 G h2 h1 with q | ⟨q, _⟩
  · rw [q]; exact h3
  · exact absurd h3 (hF w G q row)
theorem PickAt.kept {T : TypeId} {S : Nat} {lo hi : Int} {F : World → Nat → Prop} {w w' : World} {v : Value} (hF : ∀ w k, F w k → ∀ row, w.heap[k]? ≠ some (.cells row T (0, 0))) (hR : RStep S F w w') (h : PickAt T S lo hi w v) : PickAt T S lo hi w' v := by
  obtain ⟨G, k, row, x, e, h1, h2, h3, h4⟩ := h
  refine ⟨G, k, row, x, e, h1, Nat.lt_of_lt_of_le h2 hR.1, ?_, h4⟩
  rcases hR.2 G h2 h1 with q | ⟨q, _⟩
  · rw [q]; exact h3
  · exact absurd h3 (hF w G q row)
end Go.Proofs.YtioldepgoodipaaGreat
/- An empty literal, and an append to it, as operations of a region in any order; numbers of a row of items. -/
namespace Go.Proofs.YtioldepgoodipaaGreat
open Go.RowKit
set_option linter.unusedVariables false

/-- A number, as an item of one cell. -/
def nC (x : Int) : List Value := [.int .i64 x]
theorem nC_len (x : Int) : (nC x).length = 1 := rfl
theorem nC_one (x : Int) : ∀ u ∈ nC x, u.oneCell' = true := by
  intro u hu
  simp [nC] at hu
  subst hu
  rfl
theorem NumsIn.rs {w : World} {a : Option Addr} {l : List Int} (h : NumsIn w a l) : RsIn nC 1 w a l := by
  rcases h with h | ⟨b, o, rfl, hlt, hc⟩
  · exact .inl h
  · refine .inr ⟨b, o, rfl, hlt, fun i x hx j v hv => ?_⟩
    rcases j with _ | j
    · simp [nC] at hv
      subst hv
      rw [Nat.mul_one]
      exact hc i x hx
    · simp [nC] at hv
theorem RsNew.nums {e : TypeId} {lo hi : Nat} {w : World} {a : Option Addr} {l : List Int} (h : RsNew nC 1 e lo hi w a l) : NumsNew lo hi w a l := by
  rcases h with h | ⟨b, o, row, rfl, h1, h2, hg, hs, hc⟩
  · exact .inl h
  · refine .inr ⟨b, o, rfl, h1, h2, (Array.getElem?_eq_some_iff.1 hg).1, fun j hj => frozen_of_row w b (o + j) _ _ hg, fun i x hx => ?_⟩
    have := hc i x hx 0 _ rfl
    rw [Nat.mul_one, Nat.add_zero] at this
    exact (cell_of_row w b (o + i) row e (0, 0) hg).trans this
/-- Rows of two types stand in two blocks. -/
theorem RsNew.apart {α β : Type} {c : α → List Value} {d : β → List Value} {s t : Nat} {e f : TypeId} {lo hi lo' hi' : Nat} {w : World} {a b : Option Addr} {l : List α} {m : List β} (hne : e ≠ f)
    (h : RsNew c s e lo hi w a l) (h' : RsNew d t f lo' hi' w b m) (h1 : lo ≤ hi) (h2 : lo' ≤ hi') :
    ∃ x1 y1 x2 y2, (lo ≤ x1 ∧ x1 ≤ y1 ∧ y1 ≤ hi) ∧ (lo' ≤ x2 ∧ x2 ≤ y2 ∧ y2 ≤ hi') ∧ (y1 ≤ x2 ∨ y2 ≤ x1) ∧ RsNew c s e x1 y1 w a l ∧ RsNew d t f x2 y2 w b m := by
  rcases h with rfl | ⟨B, o, row, rfl, g1, g2, hg, hs, hc⟩
  · by_cases q : lo ≤ lo'
    · exact ⟨lo, lo, lo', hi', by omega, by omega, .inl q, .inl rfl, h'⟩
    · rcases h' with rfl | ⟨B', o', row', rfl, g1', g2', hg', hs', hc'⟩
      · exact ⟨lo, lo, lo', lo', by omega, by omega, .inr (by omega), .inl rfl, .inl rfl⟩
      · by_cases q2 : B' < lo
        · exact ⟨lo, lo, B', B' + 1, by omega, by omega, .inr q2, .inl rfl, .inr ⟨B', o', row', rfl, Nat.le_refl _, Nat.lt_succ_self _, hg', hs', hc'⟩⟩
        · exact ⟨lo, lo, B', B' + 1, by omega, by omega, .inl (by omega), .inl rfl, .inr ⟨B', o', row', rfl, Nat.le_refl _, Nat.lt_succ_self _, hg', hs', hc'⟩⟩
  · have k1 : RsNew c s e B (B + 1) w (some ⟨B, o, none⟩) l := .inr ⟨B, o, row, rfl, Nat.le_refl _, Nat.lt_succ_self _, hg, hs, hc⟩
    rcases h' with rfl | ⟨B', o', row', rfl, g1', g2', hg', hs', hc'⟩
    · by_cases q : B < lo'
      · exact ⟨B, B + 1, lo', lo', by omega, by omega, .inl q, k1, .inl rfl⟩
      · exact ⟨B, B + 1, lo', lo', by omega, by omega, .inr (by omega), k1, .inl rfl⟩
    · have hBB : B ≠ B' := by
        rintro rfl
        rw [hg] at hg'
        injection hg' with hg'
        injection hg' with _ ht _
        exact hne ht
      exact ⟨B, B + 1, B', B' + 1, by omega, by omega, by omega, k1, .inr ⟨B', o', row', rfl, Nat.le_refl _, Nat.lt_succ_self _, hg', hs', hc'⟩⟩

section
variable {P : Program} {o : Oper} {a : Act} {w : World} {K : Act → World → Prop} {Q : Exit → Act → World → Prop}
/-- A store over a whole block that is said whole. -/
theorem ob_put_row (ty : TypeId) (x y : Operand) (ho : o.op = .store ty x y) (g : Nat) (hx : a.eval x = .pointer (some ⟨g, 0, none⟩)) (v : Value) (hy : a.eval y = v) (cells : Array Value) (hcs : v.cells = cells)
    (t : TypeId) (old new : Array Value) (hg : w.heap[g]? = some (.cells old t (0, 0))) (hi : (P.info? ty).map (·.size) = some cells.size) (hk0 : Nat.ble (0 + cells.size) old.size = true) (h1 : cells.toList.all (·.oneCell') = true) (hnew : setAll old 0 cells.toList = new)
    (h : ∀ w', w'.heap[g]? = some (.cells new t (0, 0)) → Out g (g + 1) w w' → K (a.put o.dst undef) w') : o.wp P a w K Q := by
  have hk : 0 + cells.size ≤ old.size := Nat.le_of_ble_eq_true hk0
  have ht : w.there g 0 cells.size := fun j hj => by
    refine ⟨?_, frozen_of_row w g (0 + j) old t hg⟩
    rw [cell_of_row w g (0 + j) old t (0, 0) hg, Array.getElem?_eq_getElem (by omega)]
    rfl
  have hrun := run_storeCells_cells (P := P) g 0 cells.toList 0 w (fun j hj => by simpa using (ht j (by simpa using hj)).1) (fun j hj => by simpa using (ht j (by simpa using hj)).2)
    (fun v hv => List.all_eq_true.1 h1 v hv)
  have hrun2 : (storeVar ty ⟨g, 0, none⟩ v).run P w = .ok () (w.setCells g 0 cells.toList) := by
    cases hq : P.info? ty with
    | none => simp [hq] at hi
    | some i =>
      have hs : cells.size = i.size := by simp [hq] at hi; omega
      simp only [Nat.add_zero] at hrun
      simp [storeVar, sizeOf, typeInfo, hq, hcs, hs, hrun]
  refine ob_skip (w' := w.setCells g 0 cells.toList) ?_ (h _ (hnew ▸ heap_setCells g t cells.toList w 0 old hg) (out_setCells g cells.toList w 0))
  unfold execOp
  simp only [ho, hx, hy, Instr.storeAt, Instr.sureAddr, Sem.run_bind, Sem.run_pure, Result.andThen_ok, hrun2]
end
end Go.Proofs.YtioldepgoodipaaGreat
/- A Queue and a Claim in new memory: the program's freshQueue, waitingIn and copied. Nothing that was there is written. -/
namespace Go.Proofs.YtioldepgoodipaaGreat
open Go.RowKit
set_option linter.unusedVariables false

/-- A Can's cells. -/
def canL (x : Int × ByteArray) : List Value := [.int .i64 x.1, .string x.2]
theorem canL_len (x : Int × ByteArray) : (canL x).length = 2 := rfl
theorem RsNew.cans {e : TypeId} {lo hi : Nat} {w : World} {a : Option Addr} {l : List (Int × ByteArray)} (h : RsNew canL 2 e lo hi w a l) : NewIn lo hi w a l := by
  rcases h with h | ⟨b, o, row, rfl, h1, h2, hg, hs, hc⟩
  · exact .inl h
  · refine .inr ⟨b, o, rfl, h1, h2, (Array.getElem?_eq_some_iff.1 hg).1, fun j _ => frozen_of_row w b (o + j) _ _ hg, fun i x hx => ⟨?_, ?_⟩⟩
    · have := hc i x hx 0 _ rfl
      rw [Nat.add_zero] at this
      rw [cell_of_row w b _ _ _ (0, 0) hg]
      exact this
    · rw [cell_of_row w b _ _ _ (0, 0) hg]
      exact hc i x hx 1 _ rfl
set_option maxRecDepth 100000 in
theorem waitingInC_any (a : Option Addr) (n c : Nat) (w : World) :
    Calls Tryz.prog 140 #[.agg #[.slice a n c]] w fun e w' => e = .returned (.agg #[.slice a n c]) ∧ Below w.heap.size w w' := by
  go_enter Tryz.func140, Tryz.ntmps140
  go_wp2_with (first
    | (refine wpList_box_h rfl 43 (.tmp 0) rfl #[.slice a n c] rfl ?_; intro w1 R1 e1 g1 b1; have HL1 := Lib.hid (show Lg w w1 [(R1, #[.slice a n c], 43)] [] from (Lg.first w).box e1 g1 b1); clear g1 b1 e1)
    | (refine wpList_alloc_h rfl 212 rfl (.agg #[.slice none 0 0]) (by kernel_rfl) #[.slice none 0 0] rfl ?_; intro w2 R2 e2 g2 b2; have qR2_R1 : R1 < R2 := Nat.lt_of_lt_of_eq (HL1.out.lt (.head _)) e2; have HL2 := Lib.hid (show Lg w w2 [(R2, #[.slice none 0 0], 212), (R1, #[.slice a n c], 43)] [] from HL1.out.box e2 g2 b2); clear g2 b2 e2)
    | (refine wpList_load_one rfl 41 (.tmp 3) rfl (R1) 0 rfl 43 #[.slice a n c] (0, 0) (HL2.out.get (.tail _ (.head _))) (.slice a n c) rfl _ Tryz.underlying41 rfl (by kernel_rfl) ?_)
    | (refine wpList_put_at rfl 212 (.tmp 2) (.tmp 5) rfl rfl (R2) 0 rfl (.agg #[.slice a n c]) rfl #[.slice a n c] rfl 212 #[.slice none 0 0] #[.slice a n c] (HL2.out.get (.head _)) (by kernel_rfl) (by kernel_rfl) (by kernel_rfl) (by kernel_rfl) ?_; intro w3 g3 o3; have HL3 := Lib.hid (show Lg w w3 [(R2, #[.slice a n c], 212), (R1, #[.slice a n c], 43)] [] from HL2.out.put 0 rfl g3 o3 (List.forall_mem_cons.2 ⟨Nat.ne_of_lt qR2_R1, (fun _ h => nomatch h)⟩) (fun _ h => nomatch h) rfl); clear g3 o3))
  exact bodyPost_ret (results_cell_row (p := 2) (ty := 212) (by kernel_rfl) _ _ (R2) 212 _ (0, 0) _ rfl (HL3.out.get (.head _)) Tryz.underlying212 rfl (by kernel_rfl)) rfl ⟨rfl, HL3.out.below⟩
set_option maxRecDepth 100000 in
set_option maxHeartbeats 8000000 in
theorem freshQueue_new (a : Option Addr) (cap : Nat) (l : List (Int × ByteArray)) (w : World) (h : CansIn w a l) (hs : CansSmall l) (hlen : l.length ≤ 1048576) :
    Calls Tryz.prog 139 #[.agg #[.slice a l.length cap]] w fun e w' => ∃ a', e = .returned (.agg #[.slice a' l.length l.length]) ∧ RsNew canL 2 66 w.heap.size w'.heap.size w' a' l ∧ Below w.heap.size w w' := by
  obtain ⟨i0, hi, hz0, hz1, hz2⟩ := info_parts CansTo.info
  obtain ⟨N, hN⟩ : ∃ N, l.length = N := ⟨_, rfl⟩
  have HN := Lib.hid hN
  have HH := Lib.hid h
  have HSm := Lib.hid hs
  rw [hN] at hlen ⊢
  clear hN h hs
  go_enter Tryz.func139, Tryz.ntmps139
  go_wp2_with (first
    | (refine wpList_box_h rfl 212 (.tmp 0) rfl #[.slice a N cap] rfl ?_; intro w1 R1 e1 g1 b1; have HL1 := Lib.hid (show Lg w w1 [(R1, #[.slice a N cap], 212)] [] from (Lg.first w).box e1 g1 b1); clear g1 b1 e1)
    | (refine wpList_alloc_h rfl 43 rfl (.agg #[.slice none 0 0]) (by kernel_rfl) #[.slice none 0 0] rfl ?_; intro w2 R2 e2 g2 b2; have qR2_R1 : R1 < R2 := Nat.lt_of_lt_of_eq (HL1.out.lt (.head _)) e2; have HL2 := Lib.hid (show Lg w w2 [(R2, #[.slice none 0 0], 43), (R1, #[.slice a N cap], 212)] [] from HL1.out.box e2 g2 b2); clear g2 b2 e2)
    | (refine wpList_load_one rfl 41 (.tmp 6) rfl (R1) 0 rfl 212 #[.slice a N cap] (0, 0) (HL2.out.get (.tail _ (.head _))) (.slice a N cap) rfl _ Tryz.underlying41 rfl (by kernel_rfl) ?_)
    | (at_make; refine wpList_make_full _ rfl (.tmp 8) (.tmp 8) 41 rfl w2.heap.size 66 i0 (.agg #[.int .i64 0, .string ByteArray.empty]) 2 Tryz.underlying41 hi hz0 hz1 .i64 .i64 (N : Int) (N : Int) N (by rfl) (by rfl) (by omega) (by omega) (by rw [hz2]; omega) (by unfold maxLen; omega) (Nat.le_refl _) ?_; intro w3 hown hgrow; have hb3 : Below w2.heap.size w2 w3 := (Below.refl _ _).grown hgrow (Nat.le_refl _) (fun _ h => by cases h); have HL3 := Lib.hid (HL2.out.kept hb3); have HOw := Lib.hid hown; have HB3 := Lib.hid hb3; clear hown hgrow hb3)
    | (refine wpList_load_one rfl 41 (.tmp 10) rfl (R1) 0 rfl 212 #[.slice a N cap] (0, 0) (HL3.out.get (.tail _ (.head _))) (.slice a N cap) rfl _ Tryz.underlying41 rfl (by kernel_rfl) ?_))
  obtain ⟨G, hG⟩ : ∃ G, w2.heap.size = G := ⟨_, rfl⟩
  have hGw : w.heap.size + 2 ≤ G := by
    have h1 := HL2.out.lt (.head _)
    have h2 := HL2.out.lt (.tail _ (.head _))
    have h3 := HL2.out.ge (.tail _ (.head _))
    omega
  have hR1 : R1 < G := by rw [← hG]; exact HL2.out.lt (.tail _ (.head _))
  have hR2 : R2 < G := by rw [← hG]; exact HL2.out.lt (.head _)
  have hR2g : w.heap.size ≤ R2 := HL2.out.ge (.head _)
  have HRb := Lib.hid (HL3.out.get (.head _))
  rw [hG]
  rw [hG] at HOw HB3
  rcases Nat.eq_zero_or_pos N with hN0 | hN0
  · subst hN0
    have hl : l = [] := List.eq_nil_of_length_eq_zero HN.out
    refine wp_loop_rounds 1 ?_
    rw [rounds_succ]
    go_wp2_with (first
      | (refine wpList_put_at rfl 43 (.tmp 2) (.tmp 25) rfl rfl (R2) 0 rfl (.agg #[.slice (some ⟨G, 0, none⟩) 0 0]) rfl #[.slice (some ⟨G, 0, none⟩) 0 0] rfl 43 #[.slice none 0 0] #[.slice (some ⟨G, 0, none⟩) 0 0] (HL3.out.get (.head _)) (by kernel_rfl) (by kernel_rfl) (by kernel_rfl) (by kernel_rfl) ?_; intro w4 g4 o4; have HL4 := Lib.hid (show Lg w w4 [(R2, #[.slice (some ⟨G, 0, none⟩) 0 0], 43), (R1, #[.slice a 0 cap], 212)] [] from HL3.out.put 0 rfl g4 o4 (List.forall_mem_cons.2 ⟨Nat.ne_of_lt qR2_R1, (fun _ h => nomatch h)⟩) (fun _ h => nomatch h) rfl); clear g4 o4))
    exact bodyPost_ret (results_cell_row (p := 2) (ty := 43) (by kernel_rfl) _ _ (R2) 43 _ (0, 0) _ rfl (HL4.out.get (.head _)) Tryz.underlying43 rfl (by kernel_rfl)) rfl ⟨_, rfl, .inl hl, HL4.out.below⟩
  obtain ⟨row0, hg0, hs0⟩ : ∃ row0, w3.heap[G]? = some (.cells row0 66 (0, 0)) ∧ row0.size = N * 2 := by
    rcases HOw.out.2 with ⟨h', _⟩ | ⟨g', cap', cur, h', _, hg, _, _, hc, _⟩
    · simp at h'
    · simp only [Value.slice.injEq, Option.some.injEq, Addr.mk.injEq, and_true, true_and] at h'
      obtain ⟨rfl, rfl⟩ := h'
      exact ⟨cur, hg, hc⟩
  have HG0 := Lib.hid hg0
  have HS0 := Lib.hid hs0
  have hG3 : G < w3.heap.size := (Array.getElem?_eq_some_iff.1 hg0).1
  clear HOw hg0 hs0 hG
  obtain ⟨b, o, rfl, hlt, hc⟩ : ∃ b o, a = some ⟨b, o, none⟩ ∧ b < w.heap.size ∧ ∀ (i : Nat) x, l[i]? = some x → w.cell? ⟨b, o + i * 2, none⟩ = some (.int .i64 x.1) ∧ w.cell? ⟨b, o + i * 2 + 1, none⟩ = some (.string x.2) := by
    rcases HH.out with h | h
    · have := HN.out
      rw [h] at this
      simp at this
      omega
    · exact h
  have HI := Lib.hid hc
  clear hc HH
  go_loopw [4, 5, 13] (fun _ _ i wr => ∃ (k : Nat) (row : Array Value), i = .int .i64 (k : Int) ∧ k ≤ N ∧ Out G (G + 1) w3 wr ∧ wr.heap[G]? = some (.cells row 66 (0, 0)) ∧ row.size = N * 2 ∧
    (∀ j, j < k → ∀ c v, (canL (canAt l j))[c]? = some v → row[j * 2 + c]? = some v)) (fun _ _ i _ => N - (intOf i).toNat)
  case atStart => exact ⟨0, row0, rfl, by omega, Out.refl _ _ _, HG0.out, HS0.out, fun j hj => absurd hj (by omega)⟩
  case round =>
    obtain ⟨k, row, rfl, hk, hb, hgr, hrs, hdone⟩ := hrel
    have HD := Lib.hid hdone
    have HR := Lib.hid hgr
    have HRs := Lib.hid hrs
    have hsz : G < wr.heap.size := (Array.getElem?_eq_some_iff.1 hgr).1
    have hbw := HL3.out.below
    clear hdone hgr hrs
    by_cases hkn : k < N
    · have hkl : k < l.length := by have := HN.out; omega
      have hi1 : (0 : Int) ≤ (k : Int) := by omega
      have hi2 : (k : Int) < (N : Int) := by omega
      have hcell : ∀ (j : Nat) v, (canL (canAt l k))[j]? = some v → wr.cell? ⟨b, o + k * 2 + j, none⟩ = some v := by
        intro j v hv
        refine (hb.cell (p := ⟨b, _, none⟩) (Nat.lt_of_lt_of_le hlt hbw.size) (.inl (by show b < G; omega))).trans ((hbw.cell (p := ⟨b, _, none⟩) hlt).trans ?_)
        have h2 := HI.out k _ (canAt_some hkl)
        rcases j with _ | _ | j
        · cases hv
          exact h2.1
        · cases hv
          exact h2.2
        · simp [canL] at hv
      have HCs := Lib.hid hcell
      clear hcell
      have HSk := Lib.hid (HSm.out.at hkl)
      obtain ⟨x, hx⟩ : ∃ x, canAt l k = x := ⟨_, rfl⟩
      rw [hx] at HCs HSk
      have HX := Lib.hid hx
      clear hx
      obtain ⟨n, s⟩ := x
      unfold canL at HCs
      dsimp only at HCs HSk
      go_wp2_with (first
        | (refine wpList_load_cells rfl 66 (.tmp 16) rfl b (o + k * 2) rfl [.int .i64 n, .string s] HCs.out _ Tryz.underlying66 rfl (by kernel_rfl) ?_)
        | (refine wpList_alloc_h rfl 66 rfl (.agg #[.int .i64 0, .string ByteArray.empty]) (by kernel_rfl) #[.int .i64 0, .string ByteArray.empty] rfl ?_; intro v1 SR1 e1 g1 b1; have HM1 := Lib.hid (show Lg wr v1 [(SR1, #[.int .i64 0, .string ByteArray.empty], 66)] [] from (Lg.first wr).box e1 g1 b1); clear g1 b1 e1)
        | (refine wpList_put_at rfl 66 (.tmp 5) (.tmp 17) rfl rfl (SR1) 0 rfl (.agg #[.int .i64 n, .string s]) rfl #[.int .i64 n, .string s] rfl 66 #[.int .i64 0, .string ByteArray.empty] #[.int .i64 n, .string s] (HM1.out.get (.head _)) (by kernel_rfl) (by kernel_rfl) (by kernel_rfl) (by kernel_rfl) ?_; intro v2 g2 o2; have HM2 := Lib.hid (show Lg wr v2 [(SR1, #[.int .i64 n, .string s], 66)] [] from HM1.out.put 0 rfl g2 o2 (fun _ h => nomatch h) (fun _ h => nomatch h) rfl); clear g2 o2)
        | (refine wpList_load_at rfl 66 (.tmp 5) rfl (SR1) 0 rfl 66 #[.int .i64 n, .string s] (0, 0) (HM2.out.get (.head _)) [.int .i64 n, .string s] rfl _ Tryz.underlying66 rfl (by kernel_rfl) ?_))
      refine (fresh_any n s _ HSk.out).mono ?_
      rintro e v3 ⟨rfl, h⟩
      have HM3 := Lib.hid (show Lg wr v3 [(SR1, #[.int .i64 n, .string s], 66)] [] from HM2.out.kept h)
      clear h
      have hg2 := (HM3.out.below.block _ hsz).trans HR.out
      have HG2 := Lib.hid hg2
      clear hg2
      go_wp2_with (refine wpList_put_at rfl 66 (.tmp 22) (.tmp 21) rfl rfl (G) (k * 2) rfl (.agg #[.int .i64 n, .string s]) rfl #[.int .i64 n, .string s] rfl 66 row _ HG2.out (by kernel_rfl) (Nat.ble_eq_true_of_le (by show k * 2 + 2 ≤ row.size; rw [HRs.out]; omega)) (by rfl) rfl ?_; intro u3 g3 o3; have HG3 := Lib.hid g3; have HO3 := Lib.hid o3; clear g3 o3)
      go_roundw
      case rel =>
        refine ⟨k + 1, _, by go_num, by omega, hb.trans ((Out.of_below HM3.out.below).trans HO3.out), HG3.out, by rw [setAll_size, HRs.out], fun j hj c v hv => ?_⟩
        have hc7 : c < 2 := by
          have := (List.getElem?_eq_some_iff.1 hv).1
          rwa [canL_len] at this
        rcases Nat.lt_or_ge j k with h | h
        · rw [setAll_off _ _ _ _ (.inl (by omega))]
          exact HD.out j h c v hv
        · obtain rfl : j = k := by omega
          rw [HX.out] at hv
          exact setAll_at _ _ _ _ _ (by show j * 2 + 2 ≤ row.size; rw [HRs.out]; omega) hv
      case measure => simp [intOf]; omega
    · have hge : N ≤ k := by omega
      have HRw := Lib.hid ((hb.block R2 (Nat.lt_trans hR2 hG3) (.inl hR2)).trans HRb.out)
      have HBw := Lib.hid (hb.below hbw (by omega) hbw.size)
      go_wp2_with (refine wpList_put_at rfl 43 (.tmp 2) (.tmp 25) rfl rfl (R2) 0 rfl (.agg #[.slice (some ⟨G, 0, none⟩) N N]) rfl #[.slice (some ⟨G, 0, none⟩) N N] rfl 43 #[.slice none 0 0] #[.slice (some ⟨G, 0, none⟩) N N] HRw.out (by kernel_rfl) (by kernel_rfl) (by kernel_rfl) (by kernel_rfl) ?_; intro u4 g4 o4; have HG4 := Lib.hid g4; have HO4 := Lib.hid o4; clear g4 o4)
      have hf : RsNew canL 2 66 w.heap.size u4.heap.size u4 (some ⟨G, 0, none⟩) l := .inr ⟨G, 0, row, rfl, by omega, Nat.lt_of_lt_of_le hsz HO4.out.size, (HO4.out.block G hsz (by omega)).trans HR.out, by rw [HRs.out, HN.out]; omega, fun i x hx c v hv => by
        have hi : i < l.length := (List.getElem?_eq_some_iff.1 hx).1
        rw [canAt_some hi] at hx
        obtain rfl := Option.some.inj hx
        rw [Nat.zero_add]
        exact HD.out i (by have := HN.out; omega) c v hv⟩
      exact bodyPost_ret (results_cell_row (p := 2) (ty := 43) (by kernel_rfl) _ _ (R2) 43 _ (0, 0) _ rfl HG4.out Tryz.underlying43 rfl (by kernel_rfl)) rfl ⟨_, rfl, hf, HO4.out.below HBw.out hR2g HBw.out.size⟩
theorem ncells_flat (l : List Int) : l.flatMap nC = ncells l := by
  unfold ncells
  induction l with
  | nil => rfl
  | cons x r ih => simp [nC, ih]
theorem cloneT_any (a : Option Addr) (cap : Nat) (l : List Int) (w : World) (h : NumsIn w a l) (hlen : l.length ≤ 1048576) :
    Calls Tryz.prog 147 #[.slice a l.length cap] w fun e w' => ∃ a' c', e = .returned (.slice a' l.length c') ∧ RsNew nC 1 2 w.heap.size w'.heap.size w' a' l ∧ Below w.heap.size w w' :=
  (clone_any a cap l w h hlen).mono fun e w' ⟨v, h1, h2, h3⟩ => by
    rw [← ncells_flat] at h2
    obtain ⟨a', c', rfl, _, hn⟩ := RsNew.of_owns (c := nC) nC_len h2
    exact ⟨a', c', h1, hn, h3⟩
set_option maxRecDepth 100000 in
set_option maxHeartbeats 8000000 in
theorem copied_any (n : Nm) (ad st lf : Int) (a : Option Addr) (cap : Nat) (l : List Int) (w : World) (h : NumsIn w a l) (hlen : l.length ≤ 1048576) :
    Calls Tryz.prog 138 #[clV n ad st lf (.slice a l.length cap)] w fun e w' => ∃ a' c', e = .returned (clV n ad st lf (.slice a' l.length c')) ∧ RsNew nC 1 2 w.heap.size w'.heap.size w' a' l ∧ Below w.heap.size w w' := by
  have HC := fun W hW => Lib.hid (cloneT_any a cap l W hW hlen)
  have HI := Lib.hid h
  obtain ⟨n0, n1, n2, n3, n4, n5, n6, n7⟩ := n
  unfold clV
  dsimp only at *
  obtain ⟨N, hN⟩ : ∃ N, l.length = N := ⟨_, rfl⟩
  have HN := Lib.hid hN
  rw [hN] at HC ⊢
  clear h hN hlen
  go_enter Tryz.func138, Tryz.ntmps138
  go_wp2_with (first
    | (refine wpList_box_h rfl 40 (.tmp 0) rfl #[.int .i64 n0, .int .i64 n1, .int .i64 n2, .int .i64 n3, .int .i64 n4, .int .i64 n5, .int .i64 n6, .bool n7, .int .i64 ad, .int .i64 st, .int .i64 lf, .slice a N cap] rfl ?_; intro w1 R1 e1 g1 b1; have HL1 := Lib.hid (show Lg w w1 [(R1, #[.int .i64 n0, .int .i64 n1, .int .i64 n2, .int .i64 n3, .int .i64 n4, .int .i64 n5, .int .i64 n6, .bool n7, .int .i64 ad, .int .i64 st, .int .i64 lf, .slice a N cap], 40)] [] from (Lg.first w).box e1 g1 b1); clear g1 b1 e1)
    | (refine wpList_alloc_h rfl 40 rfl (.agg #[.int .i64 0, .int .i64 0, .int .i64 0, .int .i64 0, .int .i64 0, .int .i64 0, .int .i64 0, .bool false, .int .i64 0, .int .i64 0, .int .i64 0, .slice none 0 0]) (by kernel_rfl) #[.int .i64 0, .int .i64 0, .int .i64 0, .int .i64 0, .int .i64 0, .int .i64 0, .int .i64 0, .bool false, .int .i64 0, .int .i64 0, .int .i64 0, .slice none 0 0] rfl ?_; intro w2 R2 e2 g2 b2; have qR2_R1 : R1 < R2 := Nat.lt_of_lt_of_eq (HL1.out.lt (.head _)) e2; have HL2 := Lib.hid (show Lg w w2 [(R2, #[.int .i64 0, .int .i64 0, .int .i64 0, .int .i64 0, .int .i64 0, .int .i64 0, .int .i64 0, .bool false, .int .i64 0, .int .i64 0, .int .i64 0, .slice none 0 0], 40), (R1, #[.int .i64 n0, .int .i64 n1, .int .i64 n2, .int .i64 n3, .int .i64 n4, .int .i64 n5, .int .i64 n6, .bool n7, .int .i64 ad, .int .i64 st, .int .i64 lf, .slice a N cap], 40)] [] from HL1.out.box e2 g2 b2); clear g2 b2 e2)
    | (refine wpList_load_one rfl 24 (.tmp 3) rfl (R1) 11 rfl 40 #[.int .i64 n0, .int .i64 n1, .int .i64 n2, .int .i64 n3, .int .i64 n4, .int .i64 n5, .int .i64 n6, .bool n7, .int .i64 ad, .int .i64 st, .int .i64 lf, .slice a N cap] (0, 0) (HL2.out.get (.tail _ (.head _))) (.slice a N cap) rfl _ Tryz.underlying24 rfl (by kernel_rfl) ?_))
  refine ((HC _ (HI.out.kept HL2.out.below)).out).mono ?_
  rintro e w3 ⟨a4, c4, rfl, hn, h⟩
  obtain ⟨L3, e3⟩ : ∃ x, w2.heap.size = x := ⟨_, rfl⟩
  obtain ⟨H3, f3⟩ : ∃ x, w3.heap.size = x := ⟨_, rfl⟩
  have qL3_R2 : R2 < L3 := Nat.lt_of_lt_of_eq (HL2.out.lt (.head _)) e3
  have qL3_R1 : R1 < L3 := Nat.lt_of_lt_of_eq (HL2.out.lt (.tail _ (.head _))) e3
  have qH3_L3 : L3 ≤ H3 := (by rw [← e3, ← f3]; exact h.size)
  have HL3 := Lib.hid (show Lg w w3 [(R2, #[.int .i64 0, .int .i64 0, .int .i64 0, .int .i64 0, .int .i64 0, .int .i64 0, .int .i64 0, .bool false, .int .i64 0, .int .i64 0, .int .i64 0, .slice none 0 0], 40), (R1, #[.int .i64 n0, .int .i64 n1, .int .i64 n2, .int .i64 n3, .int .i64 n4, .int .i64 n5, .int .i64 n6, .bool n7, .int .i64 ad, .int .i64 st, .int .i64 lf, .slice a N cap], 40)] [(L3, H3, fun W => RsNew nC 1 2 L3 H3 W a4 l)] from HL2.out.made e3 f3 h (by rw [← e3, ← f3]; exact hn.solid))
  clear h hn e3 f3
  go_wp2_with (first
    | (refine wpList_put_at rfl 24 (.tmp 6) (.tmp 5) rfl rfl (R1) 11 rfl (.slice a4 N c4) rfl #[.slice a4 N c4] rfl 40 #[.int .i64 n0, .int .i64 n1, .int .i64 n2, .int .i64 n3, .int .i64 n4, .int .i64 n5, .int .i64 n6, .bool n7, .int .i64 ad, .int .i64 st, .int .i64 lf, .slice a N cap] #[.int .i64 n0, .int .i64 n1, .int .i64 n2, .int .i64 n3, .int .i64 n4, .int .i64 n5, .int .i64 n6, .bool n7, .int .i64 ad, .int .i64 st, .int .i64 lf, .slice a4 N c4] (HL3.out.get (.tail _ (.head _))) (by kernel_rfl) (by kernel_rfl) (by kernel_rfl) (by kernel_rfl) ?_; intro w4 g4 o4; have HL4 := Lib.hid (show Lg w w4 [(R2, #[.int .i64 0, .int .i64 0, .int .i64 0, .int .i64 0, .int .i64 0, .int .i64 0, .int .i64 0, .bool false, .int .i64 0, .int .i64 0, .int .i64 0, .slice none 0 0], 40), (R1, #[.int .i64 n0, .int .i64 n1, .int .i64 n2, .int .i64 n3, .int .i64 n4, .int .i64 n5, .int .i64 n6, .bool n7, .int .i64 ad, .int .i64 st, .int .i64 lf, .slice a4 N c4], 40)] [(L3, H3, fun W => RsNew nC 1 2 L3 H3 W a4 l)] from HL3.out.put 1 rfl g4 o4 (List.forall_mem_cons.2 ⟨Nat.ne_of_gt qR2_R1, (fun _ h => nomatch h)⟩) (List.forall_mem_cons.2 ⟨.inr qL3_R1, (fun _ h => nomatch h)⟩) rfl); clear g4 o4)
    | (refine wpList_load_at rfl 40 (.tmp 1) rfl (R1) 0 rfl 40 #[.int .i64 n0, .int .i64 n1, .int .i64 n2, .int .i64 n3, .int .i64 n4, .int .i64 n5, .int .i64 n6, .bool n7, .int .i64 ad, .int .i64 st, .int .i64 lf, .slice a4 N c4] (0, 0) (HL4.out.get (.tail _ (.head _))) [.int .i64 n0, .int .i64 n1, .int .i64 n2, .int .i64 n3, .int .i64 n4, .int .i64 n5, .int .i64 n6, .bool n7, .int .i64 ad, .int .i64 st, .int .i64 lf, .slice a4 N c4] rfl _ Tryz.underlying40 rfl (by kernel_rfl) ?_)
    | (refine wpList_put_at rfl 40 (.tmp 2) (.tmp 7) rfl rfl (R2) 0 rfl (.agg #[.int .i64 n0, .int .i64 n1, .int .i64 n2, .int .i64 n3, .int .i64 n4, .int .i64 n5, .int .i64 n6, .bool n7, .int .i64 ad, .int .i64 st, .int .i64 lf, .slice a4 N c4]) rfl #[.int .i64 n0, .int .i64 n1, .int .i64 n2, .int .i64 n3, .int .i64 n4, .int .i64 n5, .int .i64 n6, .bool n7, .int .i64 ad, .int .i64 st, .int .i64 lf, .slice a4 N c4] rfl 40 #[.int .i64 0, .int .i64 0, .int .i64 0, .int .i64 0, .int .i64 0, .int .i64 0, .int .i64 0, .bool false, .int .i64 0, .int .i64 0, .int .i64 0, .slice none 0 0] #[.int .i64 n0, .int .i64 n1, .int .i64 n2, .int .i64 n3, .int .i64 n4, .int .i64 n5, .int .i64 n6, .bool n7, .int .i64 ad, .int .i64 st, .int .i64 lf, .slice a4 N c4] (HL4.out.get (.head _)) (by kernel_rfl) (by kernel_rfl) (by kernel_rfl) (by kernel_rfl) ?_; intro w5 g5 o5; have HL5 := Lib.hid (show Lg w w5 [(R2, #[.int .i64 n0, .int .i64 n1, .int .i64 n2, .int .i64 n3, .int .i64 n4, .int .i64 n5, .int .i64 n6, .bool n7, .int .i64 ad, .int .i64 st, .int .i64 lf, .slice a4 N c4], 40), (R1, #[.int .i64 n0, .int .i64 n1, .int .i64 n2, .int .i64 n3, .int .i64 n4, .int .i64 n5, .int .i64 n6, .bool n7, .int .i64 ad, .int .i64 st, .int .i64 lf, .slice a4 N c4], 40)] [(L3, H3, fun W => RsNew nC 1 2 L3 H3 W a4 l)] from HL4.out.put 0 rfl g5 o5 (List.forall_mem_cons.2 ⟨Nat.ne_of_lt qR2_R1, (fun _ h => nomatch h)⟩) (List.forall_mem_cons.2 ⟨.inr qL3_R2, (fun _ h => nomatch h)⟩) rfl); clear g5 o5))
  exact bodyPost_ret (results_cell_row (p := 2) (ty := 40) (by kernel_rfl) _ _ (R2) 40 _ (0, 0) _ rfl (HL5.out.get (.head _)) Tryz.underlying40 rfl (by kernel_rfl)) rfl ⟨a4, c4, rfl, (HL5.out.at (.head _)).wide (HL5.out.lo (.head _)) (HL5.out.hi (.head _)).2, HL5.out.below⟩
end Go.Proofs.YtioldepgoodipaaGreat
/- Rows of Sessions in new memory: the program's freshTable. Nothing that was there is written. -/
namespace Go.Proofs.YtioldepgoodipaaGreat
open Go.RowKit
set_option linter.unusedVariables false

set_option maxRecDepth 100000 in
set_option maxHeartbeats 8000000 in
theorem freshTable_new (a : Option Addr) (cap : Nat) (l : List Se) (w : World) (h : RsIn seL 7 w a l) (hs : ∀ i, i < l.length → (seAt l i).dt.size ≤ 1000000) (hlen : l.length ≤ 1048576) :
    Calls Tryz.prog 141 #[.slice a l.length cap] w fun e w' => ∃ a', e = .returned (.slice a' l.length l.length) ∧ RsNew seL 7 159 w.heap.size w'.heap.size w' a' l ∧ Below w.heap.size w w' := by
  obtain ⟨i0, hi, hz0, hz1, hz2⟩ := info_parts SesTo.info
  obtain ⟨N, hN⟩ : ∃ N, l.length = N := ⟨_, rfl⟩
  have HN := Lib.hid hN
  have HH := Lib.hid h
  have HSm := Lib.hid hs
  rw [hN] at hlen ⊢
  clear hN h hs
  go_enter Tryz.func141, Tryz.ntmps141
  go_wp2_with (at_make; refine wpList_make_full _ rfl (.tmp 7) (.tmp 7) 44 rfl w.heap.size 159 i0 (.agg #[.int .i64 0, .int .i64 0, .int .i64 0, .int .i64 0, .int .i64 0, .string ByteArray.empty, .int .i64 0]) 7 Tryz.underlying44 hi hz0 hz1 .i64 .i64 (N : Int) (N : Int) N (by rfl) (by rfl) (by omega) (by omega) (by rw [hz2]; omega) (by unfold maxLen; omega) (Nat.le_refl _) ?_; intro w1 hown hgrow)
  have hb1 : Below w.heap.size w w1 := (Below.refl _ _).grown hgrow (Nat.le_refl _) (fun _ h => by cases h)
  rcases Nat.eq_zero_or_pos N with hN0 | hN0
  · subst hN0
    have hl : l = [] := List.eq_nil_of_length_eq_zero HN.out
    clear hown hgrow
    refine wp_loop_rounds 1 ?_
    rw [rounds_succ]; go_wp2
    go_ret
    exact ⟨_, rfl, .inl (by first | exact hl | rfl), hb1⟩
  obtain ⟨row0, hg0, hs0⟩ : ∃ row0, w1.heap[w.heap.size]? = some (.cells row0 159 (0, 0)) ∧ row0.size = N * 7 := by
    rcases hown.2 with ⟨h', _⟩ | ⟨g', cap', cur, h', _, hg, _, _, hc, _⟩
    · simp at h'
    · simp only [Value.slice.injEq, Option.some.injEq, Addr.mk.injEq, and_true, true_and] at h'
      obtain ⟨rfl, rfl⟩ := h'
      exact ⟨cur, hg, hc⟩
  have HG0 := Lib.hid hg0
  have HS0 := Lib.hid hs0
  clear hown hgrow hg0 hs0
  obtain ⟨b, o, rfl, hlt, hc⟩ := HH.out.at (by have := HN.out; omega)
  have HI := Lib.hid hc
  clear hc HH
  go_loopw [4, 5, 11] (fun _ _ i wr => ∃ (k : Nat) (row : Array Value), i = .int .i64 (k : Int) ∧ k ≤ N ∧ Below w.heap.size w wr ∧ wr.heap[w.heap.size]? = some (.cells row 159 (0, 0)) ∧ row.size = N * 7 ∧
    (∀ j, j < k → ∀ c v, (seL (seAt l j))[c]? = some v → row[j * 7 + c]? = some v)) (fun _ _ i _ => N - (intOf i).toNat)
  case atStart => exact ⟨0, row0, rfl, by omega, hb1, HG0.out, HS0.out, fun j hj => absurd hj (by omega)⟩
  case round =>
    obtain ⟨k, row, rfl, hk, hb, hgr, hrs, hdone⟩ := hrel
    have HD := Lib.hid hdone
    have HR := Lib.hid hgr
    have HRs := Lib.hid hrs
    have hsz : w.heap.size < wr.heap.size := (Array.getElem?_eq_some_iff.1 hgr).1
    clear hdone hgr hrs
    by_cases hkn : k < N
    · have hkl : k < l.length := by have := HN.out; omega
      have hi1 : (0 : Int) ≤ (k : Int) := by omega
      have hi2 : (k : Int) < (N : Int) := by omega
      have HCs := Lib.hid (fun j v hv => (hb.cell (p := ⟨b, _, none⟩) hlt).trans (HI.out k _ (seAt_some hkl) j v hv))
      have HSk := Lib.hid (HSm.out k hkl)
      obtain ⟨x, hx⟩ : ∃ x, seAt l k = x := ⟨_, rfl⟩
      rw [hx] at HCs HSk
      have HX := Lib.hid hx
      clear hx
      obtain ⟨src, pgn, sq, nx, sz, dt, ag⟩ := x
      unfold seL at HCs
      dsimp only at HCs HSk
      go_wp2_with (first
        | (refine wpList_load_cells rfl 159 (.tmp 14) rfl b (o + k * 7) rfl [.int .i64 src, .int .i64 pgn, .int .i64 sq, .int .i64 nx, .int .i64 sz, .string dt, .int .i64 ag] HCs.out _ Tryz.underlying159 rfl (by kernel_rfl) ?_)
        | (refine wpList_alloc_h rfl 159 rfl (.agg #[.int .i64 0, .int .i64 0, .int .i64 0, .int .i64 0, .int .i64 0, .string ByteArray.empty, .int .i64 0]) (by kernel_rfl) #[.int .i64 0, .int .i64 0, .int .i64 0, .int .i64 0, .int .i64 0, .string ByteArray.empty, .int .i64 0] rfl ?_; intro v1 SR1 e1 g1 b1; have HM1 := Lib.hid (show Lg wr v1 [(SR1, #[.int .i64 0, .int .i64 0, .int .i64 0, .int .i64 0, .int .i64 0, .string ByteArray.empty, .int .i64 0], 159)] [] from (Lg.first wr).box e1 g1 b1); clear g1 b1 e1)
        | (refine wpList_put_at rfl 159 (.tmp 5) (.tmp 15) rfl rfl (SR1) 0 rfl (.agg #[.int .i64 src, .int .i64 pgn, .int .i64 sq, .int .i64 nx, .int .i64 sz, .string dt, .int .i64 ag]) rfl #[.int .i64 src, .int .i64 pgn, .int .i64 sq, .int .i64 nx, .int .i64 sz, .string dt, .int .i64 ag] rfl 159 #[.int .i64 0, .int .i64 0, .int .i64 0, .int .i64 0, .int .i64 0, .string ByteArray.empty, .int .i64 0] #[.int .i64 src, .int .i64 pgn, .int .i64 sq, .int .i64 nx, .int .i64 sz, .string dt, .int .i64 ag] (HM1.out.get (.head _)) (by kernel_rfl) (by kernel_rfl) (by kernel_rfl) (by kernel_rfl) ?_; intro v2 g2 o2; have HM2 := Lib.hid (show Lg wr v2 [(SR1, #[.int .i64 src, .int .i64 pgn, .int .i64 sq, .int .i64 nx, .int .i64 sz, .string dt, .int .i64 ag], 159)] [] from HM1.out.put 0 rfl g2 o2 (fun _ h => nomatch h) (fun _ h => nomatch h) rfl); clear g2 o2)
        | (refine wpList_load_at rfl 159 (.tmp 5) rfl (SR1) 0 rfl 159 #[.int .i64 src, .int .i64 pgn, .int .i64 sq, .int .i64 nx, .int .i64 sz, .string dt, .int .i64 ag] (0, 0) (HM2.out.get (.head _)) [.int .i64 src, .int .i64 pgn, .int .i64 sq, .int .i64 nx, .int .i64 sz, .string dt, .int .i64 ag] rfl _ Tryz.underlying159 rfl (by kernel_rfl) ?_))
      refine (freshSession_any ⟨src, pgn, sq, nx, sz, dt, ag⟩ _ HSk.out).mono ?_
      rintro e v3 ⟨rfl, h⟩
      have HM3 := Lib.hid (show Lg wr v3 [(SR1, #[.int .i64 src, .int .i64 pgn, .int .i64 sq, .int .i64 nx, .int .i64 sz, .string dt, .int .i64 ag], 159)] [] from HM2.out.kept h)
      clear h
      have hg2 := (HM3.out.below.block _ hsz).trans HR.out
      have HG2 := Lib.hid hg2
      clear hg2
      go_wp2_with (refine wpList_put_at rfl 159 (.tmp 20) (.tmp 19) rfl rfl (w.heap.size) (k * 7) rfl (.agg #[.int .i64 src, .int .i64 pgn, .int .i64 sq, .int .i64 nx, .int .i64 sz, .string dt, .int .i64 ag]) rfl #[.int .i64 src, .int .i64 pgn, .int .i64 sq, .int .i64 nx, .int .i64 sz, .string dt, .int .i64 ag] rfl 159 row _ HG2.out (by kernel_rfl) (Nat.ble_eq_true_of_le (by show k * 7 + 7 ≤ row.size; rw [HRs.out]; omega)) (by rfl) rfl ?_; intro u3 g3 o3; have HG3 := Lib.hid g3; have HO3 := Lib.hid o3; clear g3 o3)
      go_roundw
      case rel =>
        refine ⟨k + 1, _, by go_num, by omega, ?_, HG3.out, by rw [setAll_size, HRs.out], fun j hj c v hv => ?_⟩
        · exact HO3.out.below (hb.trans (HM3.out.below.mono (Nat.le_of_lt hsz))) (Nat.le_refl _) (Nat.le_trans (Nat.le_of_lt hsz) HM3.out.below.size)
        · have hc7 : c < 7 := by
            have := (List.getElem?_eq_some_iff.1 hv).1
            rwa [seL_len] at this
          rcases Nat.lt_or_ge j k with h | h
          · rw [setAll_off _ _ _ _ (.inl (by omega))]
            exact HD.out j h c v hv
          · obtain rfl : j = k := by omega
            rw [HX.out] at hv
            exact setAll_at _ _ _ _ _ (by show j * 7 + 7 ≤ row.size; rw [HRs.out]; omega) hv
      case measure => simp [intOf]; omega
    · have hge : N ≤ k := by omega
      go_wp2_with fail
      go_ret
      exact ⟨_, rfl, .inr ⟨w.heap.size, 0, row, rfl, Nat.le_refl _, hsz, HR.out, by rw [HRs.out, HN.out]; omega, fun i x hx c v hv => by
        have hi : i < l.length := (List.getElem?_eq_some_iff.1 hx).1
        rw [seAt_some hi] at hx
        obtain rfl := Option.some.inj hx
        rw [Nat.zero_add]
        exact HD.out i (by have := HN.out; omega) c v hv⟩, hb⟩
end Go.Proofs.YtioldepgoodipaaGreat
/- Rows of Gots in new memory: the program's freshGot. Nothing that was there is written. -/
namespace Go.Proofs.YtioldepgoodipaaGreat
open Go.RowKit
set_option linter.unusedVariables false

theorem freeOf_get {ops : Array Oper} {T : Nat → World → Value → Prop} {a0 : Act} {o : Oper} {a : Act} {w : World} (hK : Known ops T a0 o a w) (k s : Nat) {oj : Oper} (he : o.after.any (fun e => (e.on == k) && Region.binds .any e) = true) (hoj : ops[k]? = some oj) (hd : oj.dst = some s)
    (hs : Nat.ble (s + 1) a0.tmps.size = true) : T k w (a.eval (.tmp s)) := by
  obtain ⟨e, he1, he2⟩ := Array.any_eq_true'.1 he
  simp only [Bool.and_eq_true] at he2
  have hk : e.on = k := by simpa using he2.1
  subst hk
  exact hK.dep e he1 he2.2 oj s hoj hd (Nat.le_of_ble_eq_true hs)
section
variable {P : Program} {o : Oper} {a : Act} {w : World} {K : Act → World → Prop} {Q : Exit → Act → World → Prop}
/-- A store of a struct into a row that is said whole. -/
theorem ob_put_mid (ty : TypeId) (x y : Operand) (ho : o.op = .store ty x y) (g k : Nat) (hx : a.eval x = .pointer (some ⟨g, k, none⟩)) (v : Value) (hy : a.eval y = v) (cells : Array Value) (hcs : v.cells = cells)
    (t : TypeId) (old new : Array Value) (hg : w.heap[g]? = some (.cells old t (0, 0))) (hi : (P.info? ty).map (·.size) = some cells.size) (hk : k + cells.size ≤ old.size) (h1 : cells.toList.all (·.oneCell') = true) (hnew : setAll old k cells.toList = new)
    (h : ∀ w', w'.heap[g]? = some (.cells new t (0, 0)) → Out g (g + 1) w w' → K (a.put o.dst undef) w') : o.wp P a w K Q := by
  have ht : w.there g k cells.size := fun j hj => by
    refine ⟨?_, frozen_of_row w g (k + j) old t hg⟩
    rw [cell_of_row w g (k + j) old t (0, 0) hg, Array.getElem?_eq_getElem (by omega)]
    rfl
  have hrun := run_storeCells_cells (P := P) g k cells.toList 0 w (fun j hj => by simpa using (ht j (by simpa using hj)).1) (fun j hj => by simpa using (ht j (by simpa using hj)).2)
    (fun v hv => List.all_eq_true.1 h1 v hv)
  have hrun2 : (storeVar ty ⟨g, k, none⟩ v).run P w = .ok () (w.setCells g k cells.toList) := by
    cases hq : P.info? ty with
    | none => simp [hq] at hi
    | some i =>
      have hs : cells.size = i.size := by simp [hq] at hi; omega
      simp only [Nat.add_zero] at hrun
      simp [storeVar, sizeOf, typeInfo, hq, hcs, hs, hrun]
  refine ob_skip (w' := w.setCells g k cells.toList) ?_ (h _ (hnew ▸ heap_setCells g t cells.toList w k old hg) (out_setCells g cells.toList w k))
  unfold execOp
  simp only [ho, hx, hy, Instr.storeAt, Instr.sureAddr, Sem.run_bind, Sem.run_pure, Result.andThen_ok, hrun2]
end
/-- A stretch stored twice is stored once. -/
theorem setAll_twice {row new : Array Value} {k : Nat} {x y z : Value} (h : setAll row k [x, y, z] = new) (hk : k + 3 ≤ row.size) : setAll new k [x, y, z] = new := by
  apply Array.ext_getElem?
  intro i
  by_cases hi : i < k ∨ k + 3 ≤ i
  · rw [setAll_off _ _ _ _ (by simpa using hi)]
  · have hn : k + 3 ≤ new.size := by rw [← h, setAll_size]; exact hk
    obtain ⟨j, rfl⟩ : ∃ j, i = k + j := ⟨i - k, by omega⟩
    have hj : j < 3 := by omega
    have h1 := setAll_at [x, y, z] new k j _ (by simpa using hn) (List.getElem?_eq_getElem (by simpa using hj))
    have h2 := setAll_at [x, y, z] row k j _ (by simpa using hk) (List.getElem?_eq_getElem (by simpa using hj))
    rw [h] at h2
    rw [h1, h2]
/-- In the midst of a round: the box of the item, the new row with the item in its place or without it. -/
structure FG (w : World) (SR G : Nat) (bx old new : Obj) (W : World) : Prop where
  below : Below w.heap.size w W
  box : W.heap[SR]? = some bx
  row : W.heap[G]? = some old ∨ W.heap[G]? = some new
/-- What the region leaves: the row may get its item. -/
def FR (G : Nat) (new : Obj) (W W' : World) : Prop := W.heap[G]? = some new → W'.heap[G]? = some new
def TFG (SR G k N : Nat) (s p : Int) (dt : ByteArray) (new : Obj) : Nat → World → Value → Prop
  | 0, _, v => v = .slice (some ⟨G, 0, none⟩) N N
  | 1, _, v => v = .int .i64 (k : Int)
  | 2, _, v => v = .pointer (some ⟨SR, 0, none⟩)
  | 3, _, v => v = .int .i64 s
  | 4, _, v => v = .pointer (some ⟨SR, 1, none⟩)
  | 5, _, v => v = .int .i64 p
  | 6, _, v => v = .pointer (some ⟨SR, 2, none⟩)
  | 7, _, v => v = .string dt
  | 8, _, v => v = .string dt
  | 9, _, v => v = .agg #[.int .i64 s, .int .i64 p, .string dt]
  | 10, _, v => v = .pointer (some ⟨G, k * 3, none⟩)
  | 11, W, _ => W.heap[G]? = some new
  | _ + 12, _, _ => True
theorem TFG.kept {SR G k N : Nat} {s p : Int} {dt : ByteArray} {new : Obj} : ∀ j w w' v, FR G new w w' → TFG SR G k N s p dt new j w v → TFG SR G k N s p dt new j w' v
  | 11, _, _, _, hR, h => hR h
  | 0, _, _, _, _, h | 1, _, _, _, _, h | 2, _, _, _, _, h | 3, _, _, _, _, h | 4, _, _, _, _, h | 5, _, _, _, _, h | 6, _, _, _, _, h | 7, _, _, _, _, h | 8, _, _, _, _, h | 9, _, _, _, _, h | 10, _, _, _, _, h => h
  | _ + 12, _, _, _, _, h => h
set_option maxRecDepth 100000 in
set_option maxHeartbeats 8000000 in
theorem freshGot_new (a : Option Addr) (cap : Nat) (l : List Gt) (w : World) (h : RsIn gtL 3 w a l) (hs : ∀ i, i < l.length → (gtAt l i).dt.size ≤ 1000000) (hlen : l.length ≤ 1048576) :
    Calls Tryz.prog 143 #[.slice a l.length cap] w fun e w' => ∃ a', e = .returned (.slice a' l.length l.length) ∧ RsNew gtL 3 144 w.heap.size w'.heap.size w' a' l ∧ Below w.heap.size w w' := by
  obtain ⟨i0, hi, hz0, hz1, hz2⟩ := info_parts GotTo.info
  obtain ⟨N, hN⟩ : ∃ N, l.length = N := ⟨_, rfl⟩
  have HN := Lib.hid hN
  have HH := Lib.hid h
  have HSm := Lib.hid hs
  rw [hN] at hlen ⊢
  clear hN h hs
  go_enter Tryz.func143, Tryz.ntmps143
  go_wp2_with (at_make; refine wpList_make_full _ rfl (.tmp 7) (.tmp 7) 46 rfl w.heap.size 144 i0 (.agg #[.int .i64 0, .int .i64 0, .string ByteArray.empty]) 3 Tryz.underlying46 hi hz0 hz1 .i64 .i64 (N : Int) (N : Int) N (by rfl) (by rfl) (by omega) (by omega) (by rw [hz2]; omega) (by unfold maxLen; omega) (Nat.le_refl _) ?_; intro w1 hown hgrow)
  have hb1 : Below w.heap.size w w1 := (Below.refl _ _).grown hgrow (Nat.le_refl _) (fun _ h => by cases h)
  rcases Nat.eq_zero_or_pos N with hN0 | hN0
  · subst hN0
    have hl : l = [] := List.eq_nil_of_length_eq_zero HN.out
    clear hown hgrow
    refine wp_loop_rounds 1 ?_
    rw [rounds_succ]; go_wp2
    go_ret
    exact ⟨_, rfl, .inl (by first | exact hl | rfl), hb1⟩
  obtain ⟨row0, hg0, hs0⟩ : ∃ row0, w1.heap[w.heap.size]? = some (.cells row0 144 (0, 0)) ∧ row0.size = N * 3 := by
    rcases hown.2 with ⟨h', _⟩ | ⟨g', cap', cur, h', _, hg, _, _, hc, _⟩
    · simp at h'
    · simp only [Value.slice.injEq, Option.some.injEq, Addr.mk.injEq, and_true, true_and] at h'
      obtain ⟨rfl, rfl⟩ := h'
      exact ⟨cur, hg, hc⟩
  have HG0 := Lib.hid hg0
  have HS0 := Lib.hid hs0
  clear hown hgrow hg0 hs0
  obtain ⟨b, o, rfl, hlt, hc⟩ := HH.out.at (by have := HN.out; omega)
  have HI := Lib.hid hc
  clear hc HH
  go_loopw [4, 5, 11] (fun _ _ i wr => ∃ (k : Nat) (row : Array Value), i = .int .i64 (k : Int) ∧ k ≤ N ∧ Below w.heap.size w wr ∧ wr.heap[w.heap.size]? = some (.cells row 144 (0, 0)) ∧ row.size = N * 3 ∧
    (∀ j, j < k → ∀ c v, (gtL (gtAt l j))[c]? = some v → row[j * 3 + c]? = some v)) (fun _ _ i _ => N - (intOf i).toNat)
  case atStart => exact ⟨0, row0, rfl, by omega, hb1, HG0.out, HS0.out, fun j hj => absurd hj (by omega)⟩
  case round =>
    obtain ⟨k, row, rfl, hk, hb, hgr, hrs, hdone⟩ := hrel
    have HD := Lib.hid hdone
    have HR := Lib.hid hgr
    have HRs := Lib.hid hrs
    have hsz : w.heap.size < wr.heap.size := (Array.getElem?_eq_some_iff.1 hgr).1
    clear hdone hgr hrs
    by_cases hkn : k < N
    · have hkl : k < l.length := by have := HN.out; omega
      have hi1 : (0 : Int) ≤ (k : Int) := by omega
      have hi2 : (k : Int) < (N : Int) := by omega
      have HCs := Lib.hid (fun j v hv => (hb.cell (p := ⟨b, _, none⟩) hlt).trans (HI.out k _ (gtAt_some hkl) j v hv))
      have HSk := Lib.hid (HSm.out k hkl)
      obtain ⟨x, hx⟩ : ∃ x, gtAt l k = x := ⟨_, rfl⟩
      rw [hx] at HCs HSk
      have HX := Lib.hid hx
      clear hx
      obtain ⟨s, p, dt⟩ := x
      unfold gtL at HCs
      dsimp only at HCs HSk
      go_wp2_with (first
        | (refine wpList_load_cells rfl 144 (.tmp 14) rfl b (o + k * 3) rfl [.int .i64 s, .int .i64 p, .string dt] HCs.out _ Tryz.underlying144 rfl (by kernel_rfl) ?_)
        | (refine wpList_alloc_h rfl 144 rfl (.agg #[.int .i64 0, .int .i64 0, .string ByteArray.empty]) (by kernel_rfl) #[.int .i64 0, .int .i64 0, .string ByteArray.empty] rfl ?_; intro v1 SR1 e1 g1 b1; have HM1 := Lib.hid (show Lg wr v1 [(SR1, #[.int .i64 0, .int .i64 0, .string ByteArray.empty], 144)] [] from (Lg.first wr).box e1 g1 b1); clear g1 b1 e1)
        | (refine wpList_put_at rfl 144 (.tmp 5) (.tmp 15) rfl rfl (SR1) 0 rfl (.agg #[.int .i64 s, .int .i64 p, .string dt]) rfl #[.int .i64 s, .int .i64 p, .string dt] rfl 144 #[.int .i64 0, .int .i64 0, .string ByteArray.empty] #[.int .i64 s, .int .i64 p, .string dt] (HM1.out.get (.head _)) (by kernel_rfl) (by kernel_rfl) (by kernel_rfl) (by kernel_rfl) ?_; intro v2 g2 o2; have HM2 := Lib.hid (show Lg wr v2 [(SR1, #[.int .i64 s, .int .i64 p, .string dt], 144)] [] from HM1.out.put 0 rfl g2 o2 (fun _ h => nomatch h) (fun _ h => nomatch h) rfl); clear g2 o2))
      have hg2 := (HM2.out.below.block _ hsz).trans HR.out
      have HBx := Lib.hid (HM2.out.get (.head _))
      have hSRl := HM2.out.ge (.head _)
      have HBl := Lib.hid (hb.trans (HM2.out.below.mono (Nat.le_of_lt hsz)))
      have hlt2 : w.heap.size < v2.heap.size := Nat.lt_of_lt_of_le hsz HM2.out.below.size
      obtain ⟨new, hnew⟩ : ∃ new, setAll row (k * 3) [.int .i64 s, .int .i64 p, .string dt] = new := ⟨_, rfl⟩
      have HNw := Lib.hid hnew
      have HG2 := Lib.hid hg2
      have hfit : k * 3 + 3 ≤ row.size := by rw [HRs.out]; omega
      have k0 : (0 : Int) ≤ (k : Int) := by omega
      have k1 : (k : Int) < (N : Int) := by omega
      clear hg2 hnew
      go_wp2_with fail
      refine wp_region_anyord (FG w SR1 w.heap.size (.cells #[.int .i64 s, .int .i64 p, .string dt] 144 (0, 0)) (.cells row 144 (0, 0)) (.cells new 144 (0, 0))) (FR w.heap.size (.cells new 144 (0, 0))) (TFG SR1 w.heap.size k N s p dt (.cells new 144 (0, 0))) (by kernel_rfl) (by kernel_rfl) (by kernel_rfl) TFG.kept ?_ ?_ ?_
      · exact ⟨HBl.out.drew, HBx.out, .inl HG2.out⟩
      · refine ⟨⟨rfl, fun a1 W hC hK => ?_⟩, ⟨rfl, fun a1 W hC hK => ?_⟩, ⟨rfl, fun a1 W hC hK => ?_⟩, ⟨rfl, fun a1 W hC hK => ?_⟩, ⟨rfl, fun a1 W hC hK => ?_⟩, ⟨rfl, fun a1 W hC hK => ?_⟩, ⟨rfl, fun a1 W hC hK => ?_⟩, ⟨rfl, fun a1 W hC hK => ?_⟩, ⟨rfl, fun a1 W hC hK => ?_⟩, ⟨rfl, fun a1 W hC hK => ?_⟩, ⟨rfl, fun a1 W hC hK => ?_⟩, ⟨rfl, fun a1 W hC hK => ?_⟩, trivial⟩
        · exact ob_move rfl ⟨_, rfl, hC, id, (hK.old 3 (by kernel_rfl)).trans rfl⟩
        · exact ob_move rfl ⟨_, rfl, hC, id, (hK.old 4 (by kernel_rfl)).trans rfl⟩
        · have e1 : a1.eval (.tmp 5) = .pointer (some ⟨SR1, 0, none⟩) := (hK.old 5 (by kernel_rfl)).trans rfl
          have c0 := cell_of_row W SR1 0 _ _ (0, 0) hC.box
          simp only [Act.eval, Array.getD_eq_getD_getElem?] at e1
          exact ob_value (v := .pointer (some ⟨SR1, 0, none⟩)) (w' := W) (by simp [execOp, go_sem, e1]) ⟨_, rfl, hC, id, rfl⟩
        · have e1 : a1.eval (.tmp 18) = .pointer (some ⟨SR1, 0, none⟩) := freeOf_get hK 2 18 (by kernel_rfl) rfl rfl rfl
          have c0 := cell_of_row W SR1 0 _ _ (0, 0) hC.box
          simp only [Act.eval, Array.getD_eq_getD_getElem?] at e1
          exact ob_value (v := .int .i64 s) (w' := W) (by simp [execOp, go_sem, e1, c0]) ⟨_, rfl, hC, id, rfl⟩
        · have e1 : a1.eval (.tmp 5) = .pointer (some ⟨SR1, 0, none⟩) := (hK.old 5 (by kernel_rfl)).trans rfl
          have c0 := cell_of_row W SR1 0 _ _ (0, 0) hC.box
          simp only [Act.eval, Array.getD_eq_getD_getElem?] at e1
          exact ob_value (v := .pointer (some ⟨SR1, 1, none⟩)) (w' := W) (by simp [execOp, go_sem, e1]) ⟨_, rfl, hC, id, rfl⟩
        · have e1 : a1.eval (.tmp 20) = .pointer (some ⟨SR1, 1, none⟩) := freeOf_get hK 4 20 (by kernel_rfl) rfl rfl rfl
          have c0 := cell_of_row W SR1 1 _ _ (0, 0) hC.box
          simp only [Act.eval, Array.getD_eq_getD_getElem?] at e1
          exact ob_value (v := .int .i64 p) (w' := W) (by simp [execOp, go_sem, e1, c0]) ⟨_, rfl, hC, id, rfl⟩
        · have e1 : a1.eval (.tmp 5) = .pointer (some ⟨SR1, 0, none⟩) := (hK.old 5 (by kernel_rfl)).trans rfl
          have c0 := cell_of_row W SR1 0 _ _ (0, 0) hC.box
          simp only [Act.eval, Array.getD_eq_getD_getElem?] at e1
          exact ob_value (v := .pointer (some ⟨SR1, 2, none⟩)) (w' := W) (by simp [execOp, go_sem, e1]) ⟨_, rfl, hC, id, rfl⟩
        · have e1 : a1.eval (.tmp 22) = .pointer (some ⟨SR1, 2, none⟩) := freeOf_get hK 6 22 (by kernel_rfl) rfl rfl rfl
          have c0 := cell_of_row W SR1 2 _ _ (0, 0) hC.box
          simp only [Act.eval, Array.getD_eq_getD_getElem?] at e1
          exact ob_value (v := .string dt) (w' := W) (by simp [execOp, go_sem, e1, c0]) ⟨_, rfl, hC, id, rfl⟩
        · have e1 : a1.eval (.tmp 23) = .string dt := freeOf_get hK 7 23 (by kernel_rfl) rfl rfl rfl
          simp only [Act.eval, Array.getD_eq_getD_getElem?] at e1
          refine ob_call rfl Tryz.func170 (by kernel_rfl) (by kernel_rfl) (vals := #[.string ByteArray.empty, .string dt]) (by simp [Act.eval, e1]; rfl) ?_
          refine (joinedE_any dt W HSk.out).mono ?_
          rintro e W' ⟨rfl, hb'⟩
          exact ⟨_, rfl, _, rfl, ⟨hC.below.trans (hb'.mono hC.below.size), (hb'.block _ (Array.getElem?_eq_some_iff.1 hC.box).1).trans hC.box, hC.row.imp (fun q => (hb'.block _ (Array.getElem?_eq_some_iff.1 q).1).trans q) (fun q => (hb'.block _ (Array.getElem?_eq_some_iff.1 q).1).trans q)⟩, fun q => (hb'.block _ (Array.getElem?_eq_some_iff.1 q).1).trans q, rfl⟩
        · have e1 : a1.eval (.tmp 19) = .int .i64 s := freeOf_get hK 3 19 (by kernel_rfl) rfl rfl rfl
          have e2 : a1.eval (.tmp 21) = .int .i64 p := freeOf_get hK 5 21 (by kernel_rfl) rfl rfl rfl
          have e3 : a1.eval (.tmp 24) = .string dt := freeOf_get hK 8 24 (by kernel_rfl) rfl rfl rfl
          simp only [Act.eval, Array.getD_eq_getD_getElem?] at e1 e2 e3
          exact ob_value (v := .agg #[.int .i64 s, .int .i64 p, .string dt]) (w' := W) (by simp [execOp, go_sem, e1, e2, e3]) ⟨_, rfl, hC, id, rfl⟩
        · have e1 : a1.eval (.tmp 16) = .slice (some ⟨w.heap.size, 0, none⟩) N N := freeOf_get hK 0 16 (by kernel_rfl) rfl rfl rfl
          have e2 : a1.eval (.tmp 17) = .int .i64 (k : Int) := freeOf_get hK 1 17 (by kernel_rfl) rfl rfl rfl
          simp only [Act.eval, Array.getD_eq_getD_getElem?] at e1 e2
          exact ob_value (v := .pointer (some ⟨w.heap.size, k * 3, none⟩)) (w' := W) (by simp [execOp, go_sem, e1, e2, k0, k1]) ⟨_, rfl, hC, id, rfl⟩
        · have e1 : a1.eval (.tmp 26) = .pointer (some ⟨w.heap.size, k * 3, none⟩) := freeOf_get hK 10 26 (by kernel_rfl) rfl rfl rfl
          have e2 : a1.eval (.tmp 25) = .agg #[.int .i64 s, .int .i64 p, .string dt] := freeOf_get hK 9 25 (by kernel_rfl) rfl rfl rfl
          have hfin : ∀ w', w'.heap[w.heap.size]? = some (.cells new 144 (0, 0)) → Out w.heap.size (w.heap.size + 1) W w' → ∃ v, a1.put none undef = a1.put none v ∧ FG w SR1 w.heap.size (.cells #[.int .i64 s, .int .i64 p, .string dt] 144 (0, 0)) (.cells row 144 (0, 0)) (.cells new 144 (0, 0)) w' ∧ FR w.heap.size (.cells new 144 (0, 0)) W w' ∧ TFG SR1 w.heap.size k N s p dt (.cells new 144 (0, 0)) 11 w' v := fun w' hg ho =>
            ⟨undef, rfl, ⟨ho.below hC.below (Nat.le_refl _) hC.below.size, (ho.block _ (Array.getElem?_eq_some_iff.1 hC.box).1 (by omega)).trans hC.box, .inr hg⟩, fun _ => hg, hg⟩
          rcases hC.row with hq | hq
          · exact ob_put_mid 144 (.tmp 26) (.tmp 25) rfl w.heap.size (k * 3) e1 _ e2 _ rfl 144 _ new hq (by kernel_rfl) hfit (by kernel_rfl) HNw.out hfin
          · exact ob_put_mid 144 (.tmp 26) (.tmp 25) rfl w.heap.size (k * 3) e1 _ e2 _ rfl 144 _ new hq (by kernel_rfl) (by rw [← HNw.out, setAll_size]; exact hfit) (by kernel_rfl) (setAll_twice HNw.out hfit) hfin
      · intro vs W hC hT
        have hfinal : W.heap[w.heap.size]? = some (.cells new 144 (0, 0)) := hT 11 (by decide)
        simp only [fillL, if_true, Act.put, List.setIfInBounds_toArray, List.set_cons_zero, List.set_cons_succ]
        have HF := Lib.hid hfinal
        have HBf := Lib.hid hC.below
        clear hC hT hfinal
        go_wp2_with fail
        go_roundw
        case rel =>
          refine ⟨k + 1, new, by go_num, by omega, HBf.out, HF.out, by rw [← HNw.out, setAll_size, HRs.out], fun j hj c v hv => ?_⟩
          have hc3 : c < 3 := by
            have := (List.getElem?_eq_some_iff.1 hv).1
            rwa [gtL_len] at this
          rw [← HNw.out]
          rcases Nat.lt_or_ge j k with h | h
          · rw [setAll_off _ _ _ _ (.inl (by omega))]
            exact HD.out j h c v hv
          · obtain rfl : j = k := by omega
            rw [HX.out] at hv
            exact setAll_at _ _ _ _ _ (by show j * 3 + 3 ≤ row.size; exact hfit) hv
        case measure => simp [intOf]; omega
    · have hge : N ≤ k := by omega
      go_wp2_with fail
      go_ret
      exact ⟨_, rfl, .inr ⟨w.heap.size, 0, row, rfl, Nat.le_refl _, hsz, HR.out, by rw [HRs.out, HN.out]; omega, fun i x hx c v hv => by
        have hi : i < l.length := (List.getElem?_eq_some_iff.1 hx).1
        rw [gtAt_some hi] at hx
        obtain rfl := Option.some.inj hx
        rw [Nat.zero_add]
        exact HD.out i (by have := HN.out; omega) c v hv⟩, hb⟩
end Go.Proofs.YtioldepgoodipaaGreat
/- Rows of Heards: their size, a copy, alike, marked, read again by the laws' own functions. Nothing that was there is written, but what is marked. -/
namespace Go.Proofs.YtioldepgoodipaaGreat
open Go.RowKit
set_option linter.unusedVariables false

/-- One of them. -/
structure Hd where
  s : Int
  n : Int
  g : Int
/-- Its cells. -/
def hdL (x : Hd) : List Value := [.int .i64 x.s, .int .i64 x.n, .int .i64 x.g]
def hdAt (l : List Hd) (i : Nat) : Hd := l[i]?.getD ⟨0, 0, 0⟩
/-- The marks from q on. -/
def markHd (q : Nat) : Hd := ⟨((q : Nat) : Int), ((q + 1 : Nat) : Int), ((q + 2 : Nat) : Int)⟩
/-- m of them from k on. -/
def marksHd (k m : Nat) : List Hd := (List.range m).map fun i => markHd (k + 3 * i)
end Go.Proofs.YtioldepgoodipaaGreat
/- A copy of rows of structs in new memory: slices.Clone. Nothing that was there is written. -/
namespace Go.Proofs.YtioldepgoodipaaGreat
open Go.RowKit Go.Joins
set_option linter.unusedVariables false

theorem OwnIn.out {α : Type} {c : α → List Value} {s : Nat} {e : TypeId} {lo hi lo' hi' : Nat} {w w' : World} {v : Value} {l : List α} (h : OwnIn c s e lo hi w v l) (ho : Out lo' hi' w w') (hh : hi ≤ w.heap.size) (hd : hi ≤ lo' ∨ hi' ≤ lo) : OwnIn c s e lo hi w' v l :=
  (h.solid.out ho hh hd).here
theorem Clone.info_d : (Tryz.prog.info? 162).map (fun i => (i.zero, i.size, i.bytes)) = some (some (.agg #[.int .i64 0, .int .i64 0, .int .i64 0, .int .i64 0, .int .i64 0, .int .i64 0, .int .i64 0, .bool false, .int .i64 0, .int .i64 0]), 10, 80) := by kernel_rfl
set_option maxRecDepth 100000 in
set_option maxHeartbeats 4000000 in
theorem clone_d (a : Option Addr) (cap : Nat) (l : List Dv) (w : World) (h : RsIn dvL 10 w a l) (hlen : l.length ≤ 1048576) :
    Calls Tryz.prog 142 #[.slice a l.length cap] w fun e w' => ∃ v, e = .returned v ∧ OwnIn dvL 10 162 w.heap.size w'.heap.size w' v l ∧ Below w.heap.size w w' := by
  obtain ⟨i0, hi, hz0, hz1, hz2⟩ := info_parts Clone.info_d
  have HI0 := Lib.hid (And.intro hi (And.intro hz0 (And.intro hz1 hz2)))
  clear hi hz0 hz1 hz2
  obtain ⟨N, hN⟩ : ∃ N, l.length = N := ⟨_, rfl⟩
  have HNl := Lib.hid hN
  rw [hN] at hlen ⊢
  clear hN
  have HI := Lib.hid h
  clear h
  rcases a with _ | ⟨b, o, sp⟩
  · have hl : l = [] := by
      rcases HI.out with h | ⟨b, o', h', _⟩
      · exact h
      · cases h'
    obtain rfl : N = 0 := by rw [← HNl.out, hl]; rfl
    subst hl
    clear HI HNl
    have hq := fun W : World => Lib.run_eql_slice_nil (P := Tryz.prog) W 45 162 none 0 cap 0 0 Tryz.underlying45
    go_enter Tryz.func142, Tryz.ntmps142
    go_wp2
    go_ret
    exact ⟨_, rfl, OwnIn.none _, Below.refl _ _⟩
  have hq := fun W : World => Lib.run_eql_slice_nil (P := Tryz.prog) W 45 162 (some ⟨b, o, sp⟩) N cap 0 0 Tryz.underlying45
  go_enter Tryz.func142, Tryz.ntmps142
  go_wp2_with (first
    | (refine wpList_lit0 dvL 10 rfl 45 rfl 162 i0 Tryz.underlying45 HI0.out.1 ?_; intro w1 g hg1 hown1 hb1; have HO1 := Lib.hid hown1; have HB1 := Lib.hid hb1; have HG1 := Lib.hid hg1; clear hown1 hb1 hg1)
    | (at_builtin; refine wpList_append_rs dvL_len dvL_one rfl (.tmp 5) (.tmp 6) 45 rfl 162 i0 (.agg #[.int .i64 0, .int .i64 0, .int .i64 0, .int .i64 0, .int .i64 0, .int .i64 0, .int .i64 0, .bool false, .int .i64 0, .int .i64 0]) 80 Tryz.underlying45 HI0.out.1 HI0.out.2.1 HI0.out.2.2.1 HI0.out.2.2.2 rfl (by decide) g w1.heap.size _ [] rfl HO1.out (some ⟨b, o, sp⟩) cap l (by rw [HNl.out]; rfl) (HI.out.kept HB1.out) (by rw [HNl.out]; unfold maxLen; show 0 + N ≤ _; omega) (by rw [HNl.out]; show (0 + N) * 80 ≤ _; omega) (by have := HG1.out; have := HB1.out.size; omega) ?_; intro v2 w2 hown2 ho2; have HO2 := Lib.hid hown2; have HB2 := Lib.hid (show Below w.heap.size w w2 from ho2.below HB1.out (by rw [HG1.out]; exact Nat.le_refl _) HB1.out.size); clear hown2 ho2))
  go_ret
  refine ⟨_, rfl, ?_, HB2.out⟩
  have := HO2.out
  rw [List.nil_append, ← HG1.out] at this
  exact this
end Go.Proofs.YtioldepgoodipaaGreat
/- A worker's Node in new memory: answered. Nothing that was there is written. -/
namespace Go.Proofs.YtioldepgoodipaaGreat
open Go.RowKit
set_option linter.unusedVariables false

/-- Where a row lies, tight: nowhere, or in one block of its type. -/
def Tight (e : TypeId) (w : World) (lo l h : Nat) : Prop := (l = lo ∧ h = lo) ∨ (lo ≤ l ∧ h = l + 1 ∧ l < w.heap.size ∧ ∃ row, w.heap[l]? = some (.cells row e (0, 0)))
theorem Tight.apart {e f : TypeId} {w : World} {lo l h l' h' : Nat} (hne : e ≠ f) (k : Tight e w lo l h) (k' : Tight f w lo l' h') : h ≤ l' ∨ h' ≤ l := by
  rcases k with ⟨rfl, rfl⟩ | ⟨p1, rfl, _, row, p3⟩
  · rcases k' with ⟨rfl, rfl⟩ | ⟨q1, rfl, _, _, _⟩
    · exact .inl (Nat.le_refl _)
    · exact .inl q1
  · rcases k' with ⟨rfl, rfl⟩ | ⟨q1, rfl, _, row', q3⟩
    · exact .inr p1
    · have : l ≠ l' := by
        rintro rfl
        rw [p3] at q3
        injection q3 with q3
        injection q3 with _ ht _
        exact hne ht
      omega
theorem Tight.in {e : TypeId} {w : World} {lo l h hi : Nat} (k : Tight e w lo l h) (hlo : lo ≤ hi) (hhi : w.heap.size ≤ hi) : lo ≤ l ∧ l ≤ h ∧ h ≤ hi := by
  rcases k with ⟨rfl, rfl⟩ | ⟨p1, rfl, p2, _⟩ <;> omega
theorem RsNew.tight {α : Type} {c : α → List Value} {s : Nat} {e : TypeId} {lo hi : Nat} {w : World} {a : Option Addr} {l : List α} (k : RsNew c s e lo hi w a l) : ∃ l1 h1, Tight e w lo l1 h1 ∧ RsNew c s e l1 h1 w a l := by
  rcases k with rfl | ⟨b, o, row, rfl, p1, p2, hg, q⟩
  · exact ⟨lo, lo, .inl ⟨rfl, rfl⟩, .inl rfl⟩
  · exact ⟨b, b + 1, .inr ⟨p1, rfl, (Array.getElem?_eq_some_iff.1 hg).1, row, hg⟩, .inr ⟨b, o, row, rfl, Nat.le_refl _, Nat.lt_succ_self _, hg, q⟩⟩
theorem RsNew.stay {α : Type} {c : α → List Value} {s : Nat} {e : TypeId} {lo : Nat} {w w' : World} {a : Option Addr} {l : List α} (k : RsNew c s e lo w.heap.size w a l) (hs : w.heap.size ≤ w'.heap.size) (hk : ∀ k, lo ≤ k → k < w.heap.size → w'.heap[k]? = w.heap[k]?) : RsNew c s e lo w'.heap.size w' a l := by
  rcases k with h | ⟨b, o, row, rfl, p1, p2, hg, q⟩
  · exact .inl h
  · exact .inr ⟨b, o, row, rfl, p1, Nat.lt_of_lt_of_le p2 hs, (hk b p1 p2).trans hg, q⟩
/-- A Node's lists, each in memory of its own, said with their types. -/
def Rows5 (lo : Nat) (W : World) (y1 y2 y3 y4 y5 : Option Addr) (x : Nd) : Prop := RsNew nC 1 2 lo W.heap.size W y1 x.c.tk ∧ RsNew canL 2 66 lo W.heap.size W y2 x.q ∧ RsNew seL 7 159 lo W.heap.size W y3 x.t ∧ RsNew dvL 10 162 lo W.heap.size W y4 x.d ∧ RsNew gtL 3 144 lo W.heap.size W y5 x.g
theorem Rows5.new {lo : Nat} {W : World} {y1 y2 y3 y4 y5 : Option Addr} {x : Nd} (h : Rows5 lo W y1 y2 y3 y4 y5 x) (hlo : lo ≤ W.heap.size) : NdNew lo W.heap.size W y1 y2 y3 y4 y5 x := by
  obtain ⟨k1, k2, k3, k4, k5⟩ := h
  obtain ⟨l1, h1, t1, r1⟩ := k1.tight
  obtain ⟨l2, h2, t2, r2⟩ := k2.tight
  obtain ⟨l3, h3, t3, r3⟩ := k3.tight
  obtain ⟨l4, h4, t4, r4⟩ := k4.tight
  obtain ⟨l5, h5, t5, r5⟩ := k5.tight
  exact ⟨l1, h1, l2, h2, l3, h3, l4, h4, l5, h5, t1.in hlo (Nat.le_refl _), t2.in hlo (Nat.le_refl _), t3.in hlo (Nat.le_refl _), t4.in hlo (Nat.le_refl _), t5.in hlo (Nat.le_refl _),
    t1.apart (by decide) t2, t1.apart (by decide) t3, t1.apart (by decide) t4, t1.apart (by decide) t5, t2.apart (by decide) t3, t2.apart (by decide) t4, t2.apart (by decide) t5, t3.apart (by decide) t4, t3.apart (by decide) t5, t4.apart (by decide) t5, r1.nums, r2.cans, r3, r4, r5⟩
/-- A Node is answered, in memory of the call's own. -/
def NdOutNew (x : Nd) (cd : Int) (w : World) (e : Ending) (w' : World) : Prop := ∃ (y1 y2 y3 y4 y5 : Option Addr) (d1 d2 d3 d4 d5 : Nat), e = .returned (ndOutV x cd y1 y2 y3 y4 y5 d1 d2 d3 d4 d5) ∧ NdNew w.heap.size w'.heap.size w' y1 y2 y3 y4 y5 x ∧ Below w.heap.size w w'
/-- The answer stands in its block. -/
def FinA (R2 lo : Nat) (x : Nd) (W : World) : Prop := ∃ (y1 y2 y3 y4 y5 : Option Addr) (d1 d2 d3 d4 d5 : Nat), W.heap[R2]? = some (.cells #[.int .i64 x.c.n.u, .int .i64 x.c.n.m, .int .i64 x.c.n.i, .int .i64 x.c.n.f, .int .i64 x.c.n.c, .int .i64 x.c.n.s, .int .i64 x.c.n.y, .bool x.c.n.a, .int .i64 x.c.ad, .int .i64 x.c.st, .int .i64 x.c.lf, .slice y1 x.c.tk.length d1, .slice y2 x.q.length d2, .slice y3 x.t.length d3, .slice y4 x.d.length d4, .slice y5 x.g.length d5, .int .i64 x.s, .int .i64 0] 50 (0, 0)) ∧ Rows5 lo W y1 y2 y3 y4 y5 x
def RA (R2 lo : Nat) (x : Nd) (W W' : World) : Prop := W.heap.size ≤ W'.heap.size ∧ (∀ k, lo ≤ k → k < W.heap.size → W'.heap[k]? = W.heap[k]?) ∧ (W'.heap[R2]? = W.heap[R2]? ∨ FinA R2 lo x W')
structure CA (w : World) (R1 R2 lo : Nat) (bx : Obj) (x : Nd) (W : World) : Prop where
  below : Below w.heap.size w W
  box : W.heap[R1]? = some bx
  res : W.heap[R2]? = some (.cells #[.int .i64 0, .int .i64 0, .int .i64 0, .int .i64 0, .int .i64 0, .int .i64 0, .int .i64 0, .bool false, .int .i64 0, .int .i64 0, .int .i64 0, .slice none 0 0, .slice none 0 0, .slice none 0 0, .slice none 0 0, .slice none 0 0, .int .i64 0, .int .i64 0] 50 (0, 0)) ∨ FinA R2 lo x W
  lo_ : lo ≤ W.heap.size
section
variable {w : World} {R1 R2 lo : Nat} {bx : Obj} {x : Nd} {W W' : World}
theorem Rows5.stay {y1 y2 y3 y4 y5 : Option Addr} (h : Rows5 lo W y1 y2 y3 y4 y5 x) (hs : W.heap.size ≤ W'.heap.size) (hk : ∀ k, lo ≤ k → k < W.heap.size → W'.heap[k]? = W.heap[k]?) : Rows5 lo W' y1 y2 y3 y4 y5 x :=
  ⟨h.1.stay hs hk, h.2.1.stay hs hk, h.2.2.1.stay hs hk, h.2.2.2.1.stay hs hk, h.2.2.2.2.stay hs hk⟩
theorem CA.go (h : CA w R1 R2 lo bx x W) (hb : Below W.heap.size W W') : CA w R1 R2 lo bx x W' :=
  ⟨h.below.trans (hb.mono h.below.size), (hb.block _ (Array.getElem?_eq_some_iff.1 h.box).1).trans h.box, h.res.imp (fun q => (hb.block _ (Array.getElem?_eq_some_iff.1 q).1).trans q) (fun ⟨y1, y2, y3, y4, y5, d1, d2, d3, d4, d5, q, r⟩ => ⟨y1, y2, y3, y4, y5, d1, d2, d3, d4, d5, (hb.block _ (Array.getElem?_eq_some_iff.1 q).1).trans q, r.stay hb.size (fun k _ hk => hb.block k hk)⟩), Nat.le_trans h.lo_ hb.size⟩
theorem CA.r2 (h : CA w R1 R2 lo bx x W) : R2 < W.heap.size := h.res.elim (fun q => (Array.getElem?_eq_some_iff.1 q).1) (fun ⟨_, _, _, _, _, _, _, _, _, _, q, _⟩ => (Array.getElem?_eq_some_iff.1 q).1)
theorem CA.ra (h : CA w R1 R2 lo bx x W) (hb : Below W.heap.size W W') : RA R2 lo x W W' := ⟨hb.size, fun k _ hk => hb.block k hk, .inl (hb.block _ h.r2)⟩
theorem RA.refl : RA R2 lo x W W := ⟨Nat.le_refl _, fun _ _ _ => rfl, .inl rfl⟩
end
def TA (R1 R2 lo : Nat) (x : Nd) (a1 a2 a3 a4 a5 : Option Addr) (c1 c2 c3 c4 c5 : Nat) : Nat → World → Value → Prop
  | 0, W, v => v = .pointer (some ⟨R1, 0, none⟩)
  | 1, W, v => v = .agg #[.int .i64 x.c.n.u, .int .i64 x.c.n.m, .int .i64 x.c.n.i, .int .i64 x.c.n.f, .int .i64 x.c.n.c, .int .i64 x.c.n.s, .int .i64 x.c.n.y, .bool x.c.n.a, .int .i64 x.c.ad, .int .i64 x.c.st, .int .i64 x.c.lf, .slice a1 x.c.tk.length c1]
  | 2, W, v => ∃ (y : Option Addr) (d : Nat), v = .agg #[.int .i64 x.c.n.u, .int .i64 x.c.n.m, .int .i64 x.c.n.i, .int .i64 x.c.n.f, .int .i64 x.c.n.c, .int .i64 x.c.n.s, .int .i64 x.c.n.y, .bool x.c.n.a, .int .i64 x.c.ad, .int .i64 x.c.st, .int .i64 x.c.lf, .slice y x.c.tk.length d] ∧ RsNew nC 1 2 lo W.heap.size W y x.c.tk
  | 3, W, v => v = .pointer (some ⟨R1, 12, none⟩)
  | 4, W, v => v = .agg #[.slice a2 x.q.length c2]
  | 5, W, v => v = .agg #[.slice a2 x.q.length c2]
  | 6, W, v => ∃ (y : Option Addr) (d : Nat), v = .agg #[.slice y x.q.length d] ∧ RsNew canL 2 66 lo W.heap.size W y x.q
  | 7, W, v => v = .pointer (some ⟨R1, 13, none⟩)
  | 8, W, v => v = .slice a3 x.t.length c3
  | 9, W, v => ∃ (y : Option Addr) (d : Nat), v = .slice y x.t.length d ∧ RsNew seL 7 159 lo W.heap.size W y x.t
  | 10, W, v => v = .pointer (some ⟨R1, 14, none⟩)
  | 11, W, v => v = .slice a4 x.d.length c4
  | 12, W, v => ∃ (y : Option Addr) (d : Nat), v = .slice y x.d.length d ∧ RsNew dvL 10 162 lo W.heap.size W y x.d
  | 13, W, v => v = .pointer (some ⟨R1, 15, none⟩)
  | 14, W, v => v = .slice a5 x.g.length c5
  | 15, W, v => ∃ (y : Option Addr) (d : Nat), v = .slice y x.g.length d ∧ RsNew gtL 3 144 lo W.heap.size W y x.g
  | 16, W, v => v = .pointer (some ⟨R1, 16, none⟩)
  | 17, W, v => v = .int .i64 x.s
  | 18, W, v => ∃ (y1 y2 y3 y4 y5 : Option Addr) (d1 d2 d3 d4 d5 : Nat), v = .agg #[.int .i64 x.c.n.u, .int .i64 x.c.n.m, .int .i64 x.c.n.i, .int .i64 x.c.n.f, .int .i64 x.c.n.c, .int .i64 x.c.n.s, .int .i64 x.c.n.y, .bool x.c.n.a, .int .i64 x.c.ad, .int .i64 x.c.st, .int .i64 x.c.lf, .slice y1 x.c.tk.length d1, .slice y2 x.q.length d2, .slice y3 x.t.length d3, .slice y4 x.d.length d4, .slice y5 x.g.length d5, .int .i64 x.s] ∧ Rows5 lo W y1 y2 y3 y4 y5 x
  | 19, W, v => ∃ (y1 y2 y3 y4 y5 : Option Addr) (d1 d2 d3 d4 d5 : Nat), v = .agg #[.int .i64 x.c.n.u, .int .i64 x.c.n.m, .int .i64 x.c.n.i, .int .i64 x.c.n.f, .int .i64 x.c.n.c, .int .i64 x.c.n.s, .int .i64 x.c.n.y, .bool x.c.n.a, .int .i64 x.c.ad, .int .i64 x.c.st, .int .i64 x.c.lf, .slice y1 x.c.tk.length d1, .slice y2 x.q.length d2, .slice y3 x.t.length d3, .slice y4 x.d.length d4, .slice y5 x.g.length d5, .int .i64 x.s, .int .i64 0] ∧ Rows5 lo W y1 y2 y3 y4 y5 x
  | 20, W, v => FinA R2 lo x W
  | _ + 21, _, _ => True
theorem TA.kept {R1 R2 lo : Nat} {x : Nd} {a1 a2 a3 a4 a5 : Option Addr} {c1 c2 c3 c4 c5 : Nat} : ∀ j w w' v, RA R2 lo x w w' → TA R1 R2 lo x a1 a2 a3 a4 a5 c1 c2 c3 c4 c5 j w v → TA R1 R2 lo x a1 a2 a3 a4 a5 c1 c2 c3 c4 c5 j w' v
  | 2, _, _, _, hR, ⟨y, d, h1, h2⟩ => ⟨y, d, h1, h2.stay hR.1 hR.2.1⟩
  | 6, _, _, _, hR, ⟨y, d, h1, h2⟩ => ⟨y, d, h1, h2.stay hR.1 hR.2.1⟩
  | 9, _, _, _, hR, ⟨y, d, h1, h2⟩ => ⟨y, d, h1, h2.stay hR.1 hR.2.1⟩
  | 12, _, _, _, hR, ⟨y, d, h1, h2⟩ => ⟨y, d, h1, h2.stay hR.1 hR.2.1⟩
  | 15, _, _, _, hR, ⟨y, d, h1, h2⟩ => ⟨y, d, h1, h2.stay hR.1 hR.2.1⟩
  | 18, _, _, _, hR, ⟨y1, y2, y3, y4, y5, d1, d2, d3, d4, d5, h1, h2⟩ => ⟨y1, y2, y3, y4, y5, d1, d2, d3, d4, d5, h1, h2.stay hR.1 hR.2.1⟩
  | 19, _, _, _, hR, ⟨y1, y2, y3, y4, y5, d1, d2, d3, d4, d5, h1, h2⟩ => ⟨y1, y2, y3, y4, y5, d1, d2, d3, d4, d5, h1, h2.stay hR.1 hR.2.1⟩
  | 20, _, _, _, hR, ⟨y1, y2, y3, y4, y5, d1, d2, d3, d4, d5, h1, h2⟩ => by
    rcases hR.2.2 with q | q
    · exact ⟨y1, y2, y3, y4, y5, d1, d2, d3, d4, d5, q.trans h1, h2.stay hR.1 hR.2.1⟩
    · exact q
  | 0, _, _, _, _, h | 1, _, _, _, _, h | 3, _, _, _, _, h | 4, _, _, _, _, h | 5, _, _, _, _, h | 7, _, _, _, _, h | 8, _, _, _, _, h | 10, _, _, _, _, h | 11, _, _, _, _, h | 13, _, _, _, _, h | 14, _, _, _, _, h | 16, _, _, _, _, h | 17, _, _, _, _, h => h
  | _ + 21, _, _, _, _, h => h
theorem sub_at0 {x : Nd} {a1 a2 a3 a4 a5 : Option Addr} {c1 c2 c3 c4 c5 : Nat} : ∀ (j : Nat) (v : Value), ([.int .i64 x.c.n.u, .int .i64 x.c.n.m, .int .i64 x.c.n.i, .int .i64 x.c.n.f, .int .i64 x.c.n.c, .int .i64 x.c.n.s, .int .i64 x.c.n.y, .bool x.c.n.a, .int .i64 x.c.ad, .int .i64 x.c.st, .int .i64 x.c.lf, .slice a1 x.c.tk.length c1] : List Value)[j]? = some v → (#[.int .i64 x.c.n.u, .int .i64 x.c.n.m, .int .i64 x.c.n.i, .int .i64 x.c.n.f, .int .i64 x.c.n.c, .int .i64 x.c.n.s, .int .i64 x.c.n.y, .bool x.c.n.a, .int .i64 x.c.ad, .int .i64 x.c.st, .int .i64 x.c.lf, .slice a1 x.c.tk.length c1, .slice a2 x.q.length c2, .slice a3 x.t.length c3, .slice a4 x.d.length c4, .slice a5 x.g.length c5, .int .i64 x.s] : Array Value)[0 + j]? = some v := by
  intro j v hv
  rcases j with _ | _ | _ | _ | _ | _ | _ | _ | _ | _ | _ | _ | j
  all_goals first | exact hv | (simp at hv)
theorem sub_at12 {x : Nd} {a1 a2 a3 a4 a5 : Option Addr} {c1 c2 c3 c4 c5 : Nat} : ∀ (j : Nat) (v : Value), ([.slice a2 x.q.length c2] : List Value)[j]? = some v → (#[.int .i64 x.c.n.u, .int .i64 x.c.n.m, .int .i64 x.c.n.i, .int .i64 x.c.n.f, .int .i64 x.c.n.c, .int .i64 x.c.n.s, .int .i64 x.c.n.y, .bool x.c.n.a, .int .i64 x.c.ad, .int .i64 x.c.st, .int .i64 x.c.lf, .slice a1 x.c.tk.length c1, .slice a2 x.q.length c2, .slice a3 x.t.length c3, .slice a4 x.d.length c4, .slice a5 x.g.length c5, .int .i64 x.s] : Array Value)[12 + j]? = some v := by
  intro j v hv
  rcases j with _ | j
  all_goals first | exact hv | (simp at hv)
set_option maxRecDepth 100000 in
set_option maxHeartbeats 32000000 in
theorem answered_any (x : Nd) (a1 a2 a3 a4 a5 : Option Addr) (c1 c2 c3 c4 c5 : Nat) (w : World) (h : NdIn w a1 a2 a3 a4 a5 x) (hs : NdSmall x) (hq : CansSmall x.q) (ht : ∀ i, i < x.t.length → (seAt x.t i).dt.size ≤ 1000000) (hg : ∀ i, i < x.g.length → (gtAt x.g i).dt.size ≤ 1000000) :
    Calls Tryz.prog 69 #[ndV x a1 a2 a3 a4 a5 c1 c2 c3 c4 c5] w (NdOutNew x 0 w) := by
  unfold NdSmall at hs
  obtain ⟨s1, s2, ⟨s3, -⟩, s4, s5, -⟩ := hs
  obtain ⟨i1, i2, i3, i4, i5⟩ := h
  have HI1 := Lib.hid i1
  have HI2 := Lib.hid i2
  have HI3 := Lib.hid i3
  have HI4 := Lib.hid i4
  have HI5 := Lib.hid i5
  have HC1 := fun W h => Lib.hid (copied_any x.c.n x.c.ad x.c.st x.c.lf a1 c1 x.c.tk W h s1)
  have HC2 := fun W h => Lib.hid (freshQueue_new a2 c2 x.q W h hq s2)
  have HC3 := fun W h => Lib.hid (freshTable_new a3 c3 x.t W h ht s3)
  have HC4 := fun W h => Lib.hid (clone_d a4 c4 x.d W h s4)
  have HC5 := fun W h => Lib.hid (freshGot_new a5 c5 x.g W h hg s5)
  unfold clV at HC1
  clear i1 i2 i3 i4 i5 s1 s2 s3 s4 s5 hq ht hg
  unfold ndV NdOutNew ndOutV
  go_enter Tryz.func69, Tryz.ntmps69
  go_wp2_with (first
    | (refine wpList_box_h rfl 104 (.tmp 0) rfl #[.int .i64 x.c.n.u, .int .i64 x.c.n.m, .int .i64 x.c.n.i, .int .i64 x.c.n.f, .int .i64 x.c.n.c, .int .i64 x.c.n.s, .int .i64 x.c.n.y, .bool x.c.n.a, .int .i64 x.c.ad, .int .i64 x.c.st, .int .i64 x.c.lf, .slice a1 x.c.tk.length c1, .slice a2 x.q.length c2, .slice a3 x.t.length c3, .slice a4 x.d.length c4, .slice a5 x.g.length c5, .int .i64 x.s] rfl ?_; intro w1 R1 e1 g1 b1; have HL1 := Lib.hid (show Lg w w1 [(R1, #[.int .i64 x.c.n.u, .int .i64 x.c.n.m, .int .i64 x.c.n.i, .int .i64 x.c.n.f, .int .i64 x.c.n.c, .int .i64 x.c.n.s, .int .i64 x.c.n.y, .bool x.c.n.a, .int .i64 x.c.ad, .int .i64 x.c.st, .int .i64 x.c.lf, .slice a1 x.c.tk.length c1, .slice a2 x.q.length c2, .slice a3 x.t.length c3, .slice a4 x.d.length c4, .slice a5 x.g.length c5, .int .i64 x.s], 104)] [] from (Lg.first w).box e1 g1 b1); clear g1 b1 e1)
    | (refine wpList_alloc_h rfl 50 rfl (.agg #[.int .i64 0, .int .i64 0, .int .i64 0, .int .i64 0, .int .i64 0, .int .i64 0, .int .i64 0, .bool false, .int .i64 0, .int .i64 0, .int .i64 0, .slice none 0 0, .slice none 0 0, .slice none 0 0, .slice none 0 0, .slice none 0 0, .int .i64 0, .int .i64 0]) (by kernel_rfl) #[.int .i64 0, .int .i64 0, .int .i64 0, .int .i64 0, .int .i64 0, .int .i64 0, .int .i64 0, .bool false, .int .i64 0, .int .i64 0, .int .i64 0, .slice none 0 0, .slice none 0 0, .slice none 0 0, .slice none 0 0, .slice none 0 0, .int .i64 0, .int .i64 0] rfl ?_; intro w2 R2 e2 g2 b2; have qR2_R1 : R1 < R2 := Nat.lt_of_lt_of_eq (HL1.out.lt (.head _)) e2; have HL2 := Lib.hid (show Lg w w2 [(R2, #[.int .i64 0, .int .i64 0, .int .i64 0, .int .i64 0, .int .i64 0, .int .i64 0, .int .i64 0, .bool false, .int .i64 0, .int .i64 0, .int .i64 0, .slice none 0 0, .slice none 0 0, .slice none 0 0, .slice none 0 0, .slice none 0 0, .int .i64 0, .int .i64 0], 50), (R1, #[.int .i64 x.c.n.u, .int .i64 x.c.n.m, .int .i64 x.c.n.i, .int .i64 x.c.n.f, .int .i64 x.c.n.c, .int .i64 x.c.n.s, .int .i64 x.c.n.y, .bool x.c.n.a, .int .i64 x.c.ad, .int .i64 x.c.st, .int .i64 x.c.lf, .slice a1 x.c.tk.length c1, .slice a2 x.q.length c2, .slice a3 x.t.length c3, .slice a4 x.d.length c4, .slice a5 x.g.length c5, .int .i64 x.s], 104)] [] from HL1.out.box e2 g2 b2); clear g2 b2 e2))
  have HRb := Lib.hid (HL2.out.get (.tail _ (.head _)))
  have HRr := Lib.hid (HL2.out.get (.head _))
  have hR1 : R1 < w2.heap.size := HL2.out.lt (.tail _ (.head _))
  have hR2 : R2 < w2.heap.size := HL2.out.lt (.head _)
  have hR2w : w.heap.size ≤ R2 := HL2.out.ge (.head _)
  have hw2 : w.heap.size ≤ w2.heap.size := HL2.out.below.size
  have HNE := Lib.hid (Nat.ne_of_lt qR2_R1)
  obtain ⟨BX, hBX⟩ : ∃ o, (.cells #[.int .i64 x.c.n.u, .int .i64 x.c.n.m, .int .i64 x.c.n.i, .int .i64 x.c.n.f, .int .i64 x.c.n.c, .int .i64 x.c.n.s, .int .i64 x.c.n.y, .bool x.c.n.a, .int .i64 x.c.ad, .int .i64 x.c.st, .int .i64 x.c.lf, .slice a1 x.c.tk.length c1, .slice a2 x.q.length c2, .slice a3 x.t.length c3, .slice a4 x.d.length c4, .slice a5 x.g.length c5, .int .i64 x.s] 104 (0, 0) : Obj) = o := ⟨_, rfl⟩
  have HBX := Lib.hid hBX
  have HQ := Lib.hid (show w2.heap[R1]? = some BX from by rw [← hBX]; exact HRb.out)
  clear hBX
  refine wp_region_anyord (CA w R1 R2 w2.heap.size BX x) (RA R2 w2.heap.size x) (TA R1 R2 w2.heap.size x a1 a2 a3 a4 a5 c1 c2 c3 c4 c5) (by kernel_rfl) (by kernel_rfl) (by kernel_rfl) TA.kept ?_ ?_ ?_
  · exact ⟨HL2.out.below.drew, HQ.out, .inl HRr.out, Nat.le_refl _⟩
  · refine ⟨⟨rfl, fun a1_ W hC hK => ?_⟩, ⟨rfl, fun a1_ W hC hK => ?_⟩, ⟨rfl, fun a1_ W hC hK => ?_⟩, ⟨rfl, fun a1_ W hC hK => ?_⟩, ⟨rfl, fun a1_ W hC hK => ?_⟩, ⟨rfl, fun a1_ W hC hK => ?_⟩, ⟨rfl, fun a1_ W hC hK => ?_⟩, ⟨rfl, fun a1_ W hC hK => ?_⟩, ⟨rfl, fun a1_ W hC hK => ?_⟩, ⟨rfl, fun a1_ W hC hK => ?_⟩, ⟨rfl, fun a1_ W hC hK => ?_⟩, ⟨rfl, fun a1_ W hC hK => ?_⟩, ⟨rfl, fun a1_ W hC hK => ?_⟩, ⟨rfl, fun a1_ W hC hK => ?_⟩, ⟨rfl, fun a1_ W hC hK => ?_⟩, ⟨rfl, fun a1_ W hC hK => ?_⟩, ⟨rfl, fun a1_ W hC hK => ?_⟩, ⟨rfl, fun a1_ W hC hK => ?_⟩, ⟨rfl, fun a1_ W hC hK => ?_⟩, ⟨rfl, fun a1_ W hC hK => ?_⟩, ⟨rfl, fun a1_ W hC hK => ?_⟩, trivial⟩
    · have e1 : a1_.eval (.tmp 1) = .pointer (some ⟨R1, 0, none⟩) := (hK.old 1 (by kernel_rfl)).trans rfl
      have c0 := cell_of_row W R1 0 _ _ (0, 0) (hC.box.trans (congrArg some HBX.out.symm))
      simp only [Act.eval, Array.getD_eq_getD_getElem?] at e1
      exact ob_value (v := .pointer (some ⟨R1, 0, none⟩)) (w' := W) (by simp [execOp, go_sem, e1]) ⟨_, rfl, hC, RA.refl, rfl⟩
    · have e1 : a1_.eval (.tmp 3) = .pointer (some ⟨R1, 0, none⟩) := freeOf_get hK 0 3 (by kernel_rfl) rfl rfl rfl
      exact wp_load_mid 40 (.tmp 3) rfl R1 0 e1 [.int .i64 x.c.n.u, .int .i64 x.c.n.m, .int .i64 x.c.n.i, .int .i64 x.c.n.f, .int .i64 x.c.n.c, .int .i64 x.c.n.s, .int .i64 x.c.n.y, .bool x.c.n.a, .int .i64 x.c.ad, .int .i64 x.c.st, .int .i64 x.c.lf, .slice a1 x.c.tk.length c1] _ (fun j v hv => (cell_of_row W R1 (0 + j) _ _ (0, 0) (hC.box.trans (congrArg some HBX.out.symm))).trans (sub_at0 j v hv)) Tryz.underlying40 rfl (by kernel_rfl) ⟨_, rfl, hC, RA.refl, rfl⟩
    · have e1 : a1_.eval (.tmp 4) = .agg #[.int .i64 x.c.n.u, .int .i64 x.c.n.m, .int .i64 x.c.n.i, .int .i64 x.c.n.f, .int .i64 x.c.n.c, .int .i64 x.c.n.s, .int .i64 x.c.n.y, .bool x.c.n.a, .int .i64 x.c.ad, .int .i64 x.c.st, .int .i64 x.c.lf, .slice a1 x.c.tk.length c1] := freeOf_get hK 1 4 (by kernel_rfl) rfl rfl rfl
      simp only [Act.eval, Array.getD_eq_getD_getElem?] at e1
      refine ob_call rfl Tryz.func138 (by kernel_rfl) (by kernel_rfl) (vals := #[.agg #[.int .i64 x.c.n.u, .int .i64 x.c.n.m, .int .i64 x.c.n.i, .int .i64 x.c.n.f, .int .i64 x.c.n.c, .int .i64 x.c.n.s, .int .i64 x.c.n.y, .bool x.c.n.a, .int .i64 x.c.ad, .int .i64 x.c.st, .int .i64 x.c.lf, .slice a1 x.c.tk.length c1]]) (by simp [Act.eval, e1]) ?_
      refine ((HC1 W (HI1.out.kept hC.below)).out).mono ?_
      rintro e W' ⟨y, d, rfl, hn, hb⟩
      exact ⟨_, rfl, _, rfl, hC.go hb, hC.ra hb, y, d, rfl, hn.wide hC.lo_ (Nat.le_refl _)⟩
    · have e1 : a1_.eval (.tmp 1) = .pointer (some ⟨R1, 0, none⟩) := (hK.old 1 (by kernel_rfl)).trans rfl
      have c0 := cell_of_row W R1 0 _ _ (0, 0) (hC.box.trans (congrArg some HBX.out.symm))
      simp only [Act.eval, Array.getD_eq_getD_getElem?] at e1
      exact ob_value (v := .pointer (some ⟨R1, 12, none⟩)) (w' := W) (by simp [execOp, go_sem, e1]) ⟨_, rfl, hC, RA.refl, rfl⟩
    · have e1 : a1_.eval (.tmp 6) = .pointer (some ⟨R1, 12, none⟩) := freeOf_get hK 3 6 (by kernel_rfl) rfl rfl rfl
      exact wp_load_mid 43 (.tmp 6) rfl R1 12 e1 [.slice a2 x.q.length c2] _ (fun j v hv => (cell_of_row W R1 (12 + j) _ _ (0, 0) (hC.box.trans (congrArg some HBX.out.symm))).trans (sub_at12 j v hv)) Tryz.underlying43 rfl (by kernel_rfl) ⟨_, rfl, hC, RA.refl, rfl⟩
    · have e1 : a1_.eval (.tmp 7) = .agg #[.slice a2 x.q.length c2] := freeOf_get hK 4 7 (by kernel_rfl) rfl rfl rfl
      simp only [Act.eval, Array.getD_eq_getD_getElem?] at e1
      refine ob_call rfl Tryz.func140 (by kernel_rfl) (by kernel_rfl) (vals := #[.agg #[.slice a2 x.q.length c2]]) (by simp [Act.eval, e1]) ?_
      refine (waitingInC_any a2 x.q.length c2 W).mono ?_
      rintro e W' ⟨rfl, hb⟩
      exact ⟨_, rfl, _, rfl, hC.go hb, hC.ra hb, rfl⟩
    · have e1 : a1_.eval (.tmp 8) = .agg #[.slice a2 x.q.length c2] := freeOf_get hK 5 8 (by kernel_rfl) rfl rfl rfl
      simp only [Act.eval, Array.getD_eq_getD_getElem?] at e1
      refine ob_call rfl Tryz.func139 (by kernel_rfl) (by kernel_rfl) (vals := #[.agg #[.slice a2 x.q.length c2]]) (by simp [Act.eval, e1]) ?_
      refine ((HC2 W (HI2.out.kept hC.below)).out).mono ?_
      rintro e W' ⟨y, rfl, hn, hb⟩
      exact ⟨_, rfl, _, rfl, hC.go hb, hC.ra hb, y, _, rfl, hn.wide hC.lo_ (Nat.le_refl _)⟩
    · have e1 : a1_.eval (.tmp 1) = .pointer (some ⟨R1, 0, none⟩) := (hK.old 1 (by kernel_rfl)).trans rfl
      have c0 := cell_of_row W R1 0 _ _ (0, 0) (hC.box.trans (congrArg some HBX.out.symm))
      simp only [Act.eval, Array.getD_eq_getD_getElem?] at e1
      exact ob_value (v := .pointer (some ⟨R1, 13, none⟩)) (w' := W) (by simp [execOp, go_sem, e1]) ⟨_, rfl, hC, RA.refl, rfl⟩
    · have e1 : a1_.eval (.tmp 10) = .pointer (some ⟨R1, 13, none⟩) := freeOf_get hK 7 10 (by kernel_rfl) rfl rfl rfl
      have c0 := cell_of_row W R1 13 _ _ (0, 0) (hC.box.trans (congrArg some HBX.out.symm))
      simp only [Act.eval, Array.getD_eq_getD_getElem?] at e1
      exact ob_value (v := .slice a3 x.t.length c3) (w' := W) (by simp [execOp, go_sem, e1, c0]) ⟨_, rfl, hC, RA.refl, rfl⟩
    · have e1 : a1_.eval (.tmp 11) = .slice a3 x.t.length c3 := freeOf_get hK 8 11 (by kernel_rfl) rfl rfl rfl
      simp only [Act.eval, Array.getD_eq_getD_getElem?] at e1
      refine ob_call rfl Tryz.func141 (by kernel_rfl) (by kernel_rfl) (vals := #[.slice a3 x.t.length c3]) (by simp [Act.eval, e1]) ?_
      refine ((HC3 W (HI3.out.kept hC.below)).out).mono ?_
      rintro e W' ⟨y, rfl, hn, hb⟩
      exact ⟨_, rfl, _, rfl, hC.go hb, hC.ra hb, y, _, rfl, hn.wide hC.lo_ (Nat.le_refl _)⟩
    · have e1 : a1_.eval (.tmp 1) = .pointer (some ⟨R1, 0, none⟩) := (hK.old 1 (by kernel_rfl)).trans rfl
      have c0 := cell_of_row W R1 0 _ _ (0, 0) (hC.box.trans (congrArg some HBX.out.symm))
      simp only [Act.eval, Array.getD_eq_getD_getElem?] at e1
      exact ob_value (v := .pointer (some ⟨R1, 14, none⟩)) (w' := W) (by simp [execOp, go_sem, e1]) ⟨_, rfl, hC, RA.refl, rfl⟩
    · have e1 : a1_.eval (.tmp 13) = .pointer (some ⟨R1, 14, none⟩) := freeOf_get hK 10 13 (by kernel_rfl) rfl rfl rfl
      have c0 := cell_of_row W R1 14 _ _ (0, 0) (hC.box.trans (congrArg some HBX.out.symm))
      simp only [Act.eval, Array.getD_eq_getD_getElem?] at e1
      exact ob_value (v := .slice a4 x.d.length c4) (w' := W) (by simp [execOp, go_sem, e1, c0]) ⟨_, rfl, hC, RA.refl, rfl⟩
    · have e1 : a1_.eval (.tmp 14) = .slice a4 x.d.length c4 := freeOf_get hK 11 14 (by kernel_rfl) rfl rfl rfl
      simp only [Act.eval, Array.getD_eq_getD_getElem?] at e1
      refine ob_call rfl Tryz.func142 (by kernel_rfl) (by kernel_rfl) (vals := #[.slice a4 x.d.length c4]) (by simp [Act.eval, e1]) ?_
      refine ((HC4 W (HI4.out.kept hC.below)).out).mono ?_
      rintro e W' ⟨v, rfl, how, hb⟩
      obtain ⟨y, d, rfl, _, hn⟩ := how.new dvL_len
      exact ⟨_, rfl, _, rfl, hC.go hb, hC.ra hb, y, d, rfl, hn.wide hC.lo_ (Nat.le_refl _)⟩
    · have e1 : a1_.eval (.tmp 1) = .pointer (some ⟨R1, 0, none⟩) := (hK.old 1 (by kernel_rfl)).trans rfl
      have c0 := cell_of_row W R1 0 _ _ (0, 0) (hC.box.trans (congrArg some HBX.out.symm))
      simp only [Act.eval, Array.getD_eq_getD_getElem?] at e1
      exact ob_value (v := .pointer (some ⟨R1, 15, none⟩)) (w' := W) (by simp [execOp, go_sem, e1]) ⟨_, rfl, hC, RA.refl, rfl⟩
    · have e1 : a1_.eval (.tmp 16) = .pointer (some ⟨R1, 15, none⟩) := freeOf_get hK 13 16 (by kernel_rfl) rfl rfl rfl
      have c0 := cell_of_row W R1 15 _ _ (0, 0) (hC.box.trans (congrArg some HBX.out.symm))
      simp only [Act.eval, Array.getD_eq_getD_getElem?] at e1
      exact ob_value (v := .slice a5 x.g.length c5) (w' := W) (by simp [execOp, go_sem, e1, c0]) ⟨_, rfl, hC, RA.refl, rfl⟩
    · have e1 : a1_.eval (.tmp 17) = .slice a5 x.g.length c5 := freeOf_get hK 14 17 (by kernel_rfl) rfl rfl rfl
      simp only [Act.eval, Array.getD_eq_getD_getElem?] at e1
      refine ob_call rfl Tryz.func143 (by kernel_rfl) (by kernel_rfl) (vals := #[.slice a5 x.g.length c5]) (by simp [Act.eval, e1]) ?_
      refine ((HC5 W (HI5.out.kept hC.below)).out).mono ?_
      rintro e W' ⟨y, rfl, hn, hb⟩
      exact ⟨_, rfl, _, rfl, hC.go hb, hC.ra hb, y, _, rfl, hn.wide hC.lo_ (Nat.le_refl _)⟩
    · have e1 : a1_.eval (.tmp 1) = .pointer (some ⟨R1, 0, none⟩) := (hK.old 1 (by kernel_rfl)).trans rfl
      have c0 := cell_of_row W R1 0 _ _ (0, 0) (hC.box.trans (congrArg some HBX.out.symm))
      simp only [Act.eval, Array.getD_eq_getD_getElem?] at e1
      exact ob_value (v := .pointer (some ⟨R1, 16, none⟩)) (w' := W) (by simp [execOp, go_sem, e1]) ⟨_, rfl, hC, RA.refl, rfl⟩
    · have e1 : a1_.eval (.tmp 19) = .pointer (some ⟨R1, 16, none⟩) := freeOf_get hK 16 19 (by kernel_rfl) rfl rfl rfl
      have c0 := cell_of_row W R1 16 _ _ (0, 0) (hC.box.trans (congrArg some HBX.out.symm))
      simp only [Act.eval, Array.getD_eq_getD_getElem?] at e1
      exact ob_value (v := .int .i64 x.s) (w' := W) (by simp [execOp, go_sem, e1, c0]) ⟨_, rfl, hC, RA.refl, rfl⟩
    · obtain ⟨y1, d1, e1, r1⟩ : TA R1 R2 w2.heap.size x a1 a2 a3 a4 a5 c1 c2 c3 c4 c5 2 W (a1_.eval (.tmp 5)) := freeOf_get hK 2 5 (by kernel_rfl) rfl rfl rfl
      obtain ⟨y2, d2, e2, r2⟩ : TA R1 R2 w2.heap.size x a1 a2 a3 a4 a5 c1 c2 c3 c4 c5 6 W (a1_.eval (.tmp 9)) := freeOf_get hK 6 9 (by kernel_rfl) rfl rfl rfl
      obtain ⟨y3, d3, e3, r3⟩ : TA R1 R2 w2.heap.size x a1 a2 a3 a4 a5 c1 c2 c3 c4 c5 9 W (a1_.eval (.tmp 12)) := freeOf_get hK 9 12 (by kernel_rfl) rfl rfl rfl
      obtain ⟨y4, d4, e4, r4⟩ : TA R1 R2 w2.heap.size x a1 a2 a3 a4 a5 c1 c2 c3 c4 c5 12 W (a1_.eval (.tmp 15)) := freeOf_get hK 12 15 (by kernel_rfl) rfl rfl rfl
      obtain ⟨y5, d5, e5, r5⟩ : TA R1 R2 w2.heap.size x a1 a2 a3 a4 a5 c1 c2 c3 c4 c5 15 W (a1_.eval (.tmp 18)) := freeOf_get hK 15 18 (by kernel_rfl) rfl rfl rfl
      have e6 : a1_.eval (.tmp 20) = .int .i64 x.s := freeOf_get hK 17 20 (by kernel_rfl) rfl rfl rfl
      simp only [Act.eval, Array.getD_eq_getD_getElem?] at e1 e2 e3 e4 e5 e6
      exact ob_value (v := .agg #[.int .i64 x.c.n.u, .int .i64 x.c.n.m, .int .i64 x.c.n.i, .int .i64 x.c.n.f, .int .i64 x.c.n.c, .int .i64 x.c.n.s, .int .i64 x.c.n.y, .bool x.c.n.a, .int .i64 x.c.ad, .int .i64 x.c.st, .int .i64 x.c.lf, .slice y1 x.c.tk.length d1, .slice y2 x.q.length d2, .slice y3 x.t.length d3, .slice y4 x.d.length d4, .slice y5 x.g.length d5, .int .i64 x.s]) (w' := W) (by simp [execOp, go_sem, e1, e2, e3, e4, e5, e6]) ⟨_, rfl, hC, RA.refl, y1, y2, y3, y4, y5, d1, d2, d3, d4, d5, rfl, r1, r2, r3, r4, r5⟩
    · obtain ⟨y1, y2, y3, y4, y5, d1, d2, d3, d4, d5, e1, r⟩ : TA R1 R2 w2.heap.size x a1 a2 a3 a4 a5 c1 c2 c3 c4 c5 18 W (a1_.eval (.tmp 21)) := freeOf_get hK 18 21 (by kernel_rfl) rfl rfl rfl
      simp only [Act.eval, Array.getD_eq_getD_getElem?] at e1
      exact ob_value (v := .agg #[.int .i64 x.c.n.u, .int .i64 x.c.n.m, .int .i64 x.c.n.i, .int .i64 x.c.n.f, .int .i64 x.c.n.c, .int .i64 x.c.n.s, .int .i64 x.c.n.y, .bool x.c.n.a, .int .i64 x.c.ad, .int .i64 x.c.st, .int .i64 x.c.lf, .slice y1 x.c.tk.length d1, .slice y2 x.q.length d2, .slice y3 x.t.length d3, .slice y4 x.d.length d4, .slice y5 x.g.length d5, .int .i64 x.s, .int .i64 0]) (w' := W) (by simp [execOp, go_sem, e1]) ⟨_, rfl, hC, RA.refl, y1, y2, y3, y4, y5, d1, d2, d3, d4, d5, rfl, r⟩
    · obtain ⟨y1, y2, y3, y4, y5, d1, d2, d3, d4, d5, e1, r⟩ : TA R1 R2 w2.heap.size x a1 a2 a3 a4 a5 c1 c2 c3 c4 c5 19 W (a1_.eval (.tmp 22)) := freeOf_get hK 19 22 (by kernel_rfl) rfl rfl rfl
      have e2 : a1_.eval (.tmp 2) = .pointer (some ⟨R2, 0, none⟩) := (hK.old 2 (by kernel_rfl)).trans rfl
      have hfin : ∀ w', w'.heap[R2]? = some (.cells #[.int .i64 x.c.n.u, .int .i64 x.c.n.m, .int .i64 x.c.n.i, .int .i64 x.c.n.f, .int .i64 x.c.n.c, .int .i64 x.c.n.s, .int .i64 x.c.n.y, .bool x.c.n.a, .int .i64 x.c.ad, .int .i64 x.c.st, .int .i64 x.c.lf, .slice y1 x.c.tk.length d1, .slice y2 x.q.length d2, .slice y3 x.t.length d3, .slice y4 x.d.length d4, .slice y5 x.g.length d5, .int .i64 x.s, .int .i64 0] 50 (0, 0)) → Out R2 (R2 + 1) W w' → ∃ v, a1_.put none undef = a1_.put none v ∧ CA w R1 R2 w2.heap.size BX x w' ∧ RA R2 w2.heap.size x W w' ∧ TA R1 R2 w2.heap.size x a1 a2 a3 a4 a5 c1 c2 c3 c4 c5 20 w' v := fun w' hg ho => by
        have hlo : ∀ k, w2.heap.size ≤ k → k < W.heap.size → w'.heap[k]? = W.heap[k]? := fun k p q => ho.block k q (by omega)
        have hF : FinA R2 w2.heap.size x w' := ⟨y1, y2, y3, y4, y5, d1, d2, d3, d4, d5, hg, r.stay ho.size hlo⟩
        have hne : R1 ≠ R2 := HNE.out
        exact ⟨undef, rfl, ⟨ho.below hC.below hR2w hC.below.size, (ho.block R1 (Array.getElem?_eq_some_iff.1 hC.box).1 (by omega)).trans hC.box, .inr hF, Nat.le_trans hC.lo_ ho.size⟩, ⟨ho.size, hlo, .inr hF⟩, hF⟩
      rcases hC.res with hq | ⟨z1, z2, z3, z4, z5, f1, f2, f3, f4, f5, hq, -⟩
      · exact ob_put_row 50 (.tmp 2) (.tmp 22) rfl R2 e2 _ e1 _ rfl 50 _ _ hq (by kernel_rfl) (by kernel_rfl) (by kernel_rfl) (by kernel_rfl) hfin
      · exact ob_put_row 50 (.tmp 2) (.tmp 22) rfl R2 e2 _ e1 _ rfl 50 _ _ hq (by kernel_rfl) (by kernel_rfl) (by kernel_rfl) (by kernel_rfl) hfin
  · intro vs W hC hT
    obtain ⟨y1, y2, y3, y4, y5, d1, d2, d3, d4, d5, hq, hr⟩ : FinA R2 w2.heap.size x W := hT 20 (by decide)
    simp only [fillL, if_true, Act.put, List.setIfInBounds_toArray, List.set_cons_zero, List.set_cons_succ]
    have HF := Lib.hid hq
    have HBf := Lib.hid hC.below
    have HNw := Lib.hid ((hr.new hC.lo_).wide hw2 (Nat.le_refl _))
    clear hC hT hq hr
    go_wp2_with fail
    exact bodyPost_ret (results_cell_row (p := 2) (ty := 50) (by kernel_rfl) _ _ (R2) 50 _ (0, 0) _ rfl HF.out Tryz.underlying50 rfl (by kernel_rfl)) rfl ⟨y1, y2, y3, y4, y5, d1, d2, d3, d4, d5, rfl, HNw.out, HBf.out⟩
end Go.Proofs.YtioldepgoodipaaGreat
