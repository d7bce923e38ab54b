/- Several texts in one, each with its own head: what is proved, and of what, stands there. -/
import Derived.Test.YtioldepgoodipaaGreatNsA
import Derived.Orders
import Derived.Deep.QuietTactic
import Derived.BigCall
import Derived.BigRegion
import Derived.Deep.AppendSrc
import Derived.Test.YtioldepgoodipaaGreatNsB
import Derived.Test.YtioldepgoodipaaGreatNsC
import Derived.BigQuiet
import Derived.Lib.SliceRun
import Derived.Lib.Overlaps
import Derived.Lib.AppendZerosOnto
import Derived.Deep.RegionLaw
import Derived.Laws.CopyOwn
namespace Go.Proofs.YtioldepgoodipaaGreat
open Go.RowKit
set_option linter.unusedVariables false

section
variable {P : Program} {ops : Array Oper} {Q : Exit → Act → World → Prop}
theorem count_set (l : List Bool) : ∀ i, l[i]? = some false → (l.set i true).count false + 1 = l.count false := by
 induction l with
 | nil => intro i h; simp at h
 | cons b r ih =>
  intro i h
  rcases i with _ | i
  ·simp at h
   subst h
   simp
  ·have := ih i (by simpa using h)
   cases b <;> simp <;> omega
theorem wpAny_of_inv {Inv : Array Bool → Act → World → Prop}
  (hstep : ∀ listed a w i, Inv listed a w → i ∈ Region.ready .any ops listed → wpOp P ops Q i (fun a' w' => Inv (listed.setIfInBounds i true) a' w') a w)
  (hend : ∀ listed a w, Inv listed a w → Region.ready .any ops listed = [] → Q .normal a w) :
  ∀ (fuel : Nat) (listed : Array Bool) (a : Act) (w : World), Inv listed a w → listed.toList.count false ≤ fuel → wpAny P .any ops Q fuel listed a w := by
 have hready : ∀ (listed : Array Bool) i, i ∈ Region.ready .any ops listed → listed.toList[i]? = some false := by
  intro listed i hi
  have h := (mem_ready.1 hi).1
  rw [Array.getElem?_toList]
  rcases Nat.lt_or_ge i listed.size with h1 | h1
  ·rw [Array.getElem?_eq_getElem h1]
   simp [h1] at h
   rw [h]
  ·simp [Array.getElem?_eq_none h1] at h
 intro fuel
 induction fuel with
 | zero =>
  intro listed a w h hc
  have h0 : Region.ready .any ops listed = [] := by
   apply List.eq_nil_iff_forall_not_mem.2
   intro i hi
   have := hready listed i hi
   have h2 := List.count_eq_zero.1 (Nat.le_zero.1 hc)
   exact h2 (List.mem_of_getElem? this)
  exact ⟨h0, hend listed a w h h0⟩
 | succ fuel ih =>
  intro listed a w h hc
  refine ⟨fun h0 => hend listed a w h h0, fun i hi => ?_⟩
  refine wpOp_mono (fun a' w' h' => ih _ a' w' h' ?_) (hstep listed a w i h hi)
  have := count_set listed.toList i (hready listed i hi)
  rw [Array.toList_setIfInBounds]
  omega

def fillL (vs : Nat → Value) (on : Nat → Bool) : List Oper → Nat → Act → Act
 | [], _, a => a
 | o :: r, k, a => fillL vs on r (k + 1) (if on k = true then a.put o.dst (vs k) else a)
def freeOf (d : Option Tmp) : List Oper → Bool
 | [] => true
 | o :: r => (match d, o.dst with | some x, some y => x != y | _, _ => true) && freeOf d r
def apartAll : List Oper → Bool
 | [] => true
 | o :: r => freeOf o.dst r && apartAll r
theorem freeOf_cons {d : Option Tmp} {o : Oper} {r : List Oper} (h : freeOf d (o :: r) = true) : (∀ x, d = some x → o.dst ≠ some x) ∧ freeOf d r = true := by
 simp only [freeOf, Bool.and_eq_true] at h
 refine ⟨fun x hx ho => ?_, h.2⟩
 subst hx
 rw [ho] at h
 simp at h
theorem fillL_put (vs : Nat → Value) (on : Nat → Bool) (d : Option Tmp) (v : Value) : ∀ (l : List Oper) (k : Nat) (a : Act), freeOf d l = true → fillL vs on l k (a.put d v) = (fillL vs on l k a).put d v := by
 intro l
 induction l with
 | nil => intro k a h; rfl
 | cons o r ih =>
  intro k a h
  obtain ⟨h1, h2⟩ := freeOf_cons h
  show fillL vs on r (k + 1) (if on k = true then (a.put d v).put o.dst (vs k) else a.put d v) = (fillL vs on r (k + 1) (if on k = true then a.put o.dst (vs k) else a)).put d v
  split
  ·rw [Act.put_comm a v (vs k) h1, ih _ _ h2]
  ·rw [ih _ _ h2]
theorem fillL_congr {vs vs' : Nat → Value} {on on' : Nat → Bool} : ∀ (l : List Oper) (k : Nat) (a : Act), (∀ j, k ≤ j → on j = on' j ∧ (on j = true → vs j = vs' j)) → fillL vs on l k a = fillL vs' on' l k a := by
 intro l
 induction l with
 | nil => intro k a h; rfl
 | cons o r ih =>
  intro k a h
  show fillL vs on r (k + 1) (if on k = true then a.put o.dst (vs k) else a) = fillL vs' on' r (k + 1) (if on' k = true then a.put o.dst (vs' k) else a)
  obtain ⟨h1, h2⟩ := h k (Nat.le_refl _)
  rw [ih (k + 1) _ (fun j hj => h j (by omega)), ← h1]
  split
  ·rename_i hk; rw [h2 hk]
  ·rfl
def upd {α : Type} (f : Nat → α) (i : Nat) (x : α) (j : Nat) : α := if j = i then x else f j
theorem fillL_step (vs : Nat → Value) (on : Nat → Bool) (v : Value) : ∀ (l : List Oper) (k i : Nat) (o : Oper) (a : Act), apartAll l = true → l[i]? = some o → on (k + i) = false →
  fillL (upd vs (k + i) v) (upd on (k + i) true) l k a = (fillL vs on l k a).put o.dst v := by
 intro l
 induction l with
 | nil => intro k i o a _ h; simp at h
 | cons o' r ih =>
  intro k i o a hap h hon
  simp only [apartAll, Bool.and_eq_true] at hap
  rcases i with _ | i
  ·simp at h
   subst h
   show fillL (upd vs (k + 0) v) (upd on (k + 0) true) r (k + 1) (if upd on (k + 0) true k = true then a.put o'.dst (upd vs (k + 0) v k) else a) = (fillL vs on r (k + 1) (if on k = true then a.put o'.dst (vs k) else a)).put o'.dst v
   have e1 : upd on (k + 0) true k = true := by simp [upd]
   have e2 : upd vs (k + 0) v k = v := by simp [upd]
   have e3 : on k = false := hon
   rw [if_pos e1, e2, e3, if_neg (by simp), ← fillL_put vs on o'.dst v r (k + 1) a hap.1]
   refine fillL_congr r (k + 1) _ fun j hj => ?_
   have hne : j ≠ k + 0 := by omega
   unfold upd
   rw [if_neg hne, if_neg hne]
   exact ⟨rfl, fun _ => rfl⟩
  ·show fillL (upd vs (k + (i + 1)) v) (upd on (k + (i + 1)) true) r (k + 1) (if upd on (k + (i + 1)) true k = true then a.put o'.dst (upd vs (k + (i + 1)) v k) else a) = (fillL vs on r (k + 1) (if on k = true then a.put o'.dst (vs k) else a)).put o.dst v
   have e1 : upd on (k + (i + 1)) true k = on k := by unfold upd; rw [if_neg (by omega)]
   have e2 : upd vs (k + (i + 1)) v k = vs k := by unfold upd; rw [if_neg (by omega)]
   rw [e1, e2, show k + (i + 1) = k + 1 + i by omega]
   exact ih (k + 1) i o _ hap.2 (by simpa using h) (by rw [show k + 1 + i = k + (i + 1) by omega]; exact hon)
theorem eval_put_other {a : Act} {d : Option Tmp} {v : Value} {s : Nat} (h : d ≠ some s) : (a.put d v).eval (.tmp s) = a.eval (.tmp s) := by
 cases d with
 | none => rfl
 | some x =>
  have hx : x ≠ s := fun e => h (by rw [e])
  show (a.tmps.setIfInBounds x v).getD s undef = a.tmps.getD s undef
  simp [Array.getD_eq_getD_getElem?, hx]
theorem eval_put_same {a : Act} {v : Value} {s : Nat} (h : s < a.tmps.size) : (a.put (some s) v).eval (.tmp s) = v := by
 show (a.tmps.setIfInBounds s v).getD s undef = v
 simp [Array.getD_eq_getD_getElem?, h]
theorem size_put (a : Act) (d : Option Tmp) (v : Value) : (a.put d v).tmps.size = a.tmps.size := by
 cases d with
 | none => rfl
 | some x => simp [Act.put]
theorem fillL_other (vs : Nat → Value) (on : Nat → Bool) (s : Nat) : ∀ (l : List Oper) (k : Nat) (a : Act), freeOf (some s) l = true → (fillL vs on l k a).eval (.tmp s) = a.eval (.tmp s) := by
 intro l
 induction l with
 | nil => intro k a h; rfl
 | cons o r ih =>
  intro k a h
  obtain ⟨h1, h2⟩ := freeOf_cons h
  show (fillL vs on r (k + 1) (if on k = true then a.put o.dst (vs k) else a)).eval (.tmp s) = _
  rw [ih _ _ h2]
  split
  ·exact eval_put_other (h1 s rfl)
  ·rfl
theorem fillL_at (vs : Nat → Value) (on : Nat → Bool) (s : Nat) : ∀ (l : List Oper) (k i : Nat) (o : Oper) (a : Act), apartAll l = true → l[i]? = some o → o.dst = some s → on (k + i) = true → s < a.tmps.size → (fillL vs on l k a).eval (.tmp s) = vs (k + i) := by
 intro l
 induction l with
 | nil => intro k i o a _ h; simp at h
 | cons o' r ih =>
  intro k i o a hap h hd hon hs
  simp only [apartAll, Bool.and_eq_true] at hap
  rcases i with _ | i
  ·simp at h
   subst h
   show (fillL vs on r (k + 1) (if on k = true then a.put o'.dst (vs k) else a)).eval (.tmp s) = _
   have e3 : on k = true := hon
   rw [if_pos e3, fillL_other vs on s r (k + 1) _ (by rw [← hd]; exact hap.1), hd]
   exact eval_put_same hs
  ·show (fillL vs on r (k + 1) (if on k = true then a.put o'.dst (vs k) else a)).eval (.tmp s) = _
   rw [show k + (i + 1) = k + 1 + i by omega]
   refine ih (k + 1) i o _ hap.2 (by simpa using h) hd (by rw [show k + 1 + i = k + (i + 1) by omega]; exact hon) ?_
   split
   ·rw [size_put]; exact hs
   ·exact hs

structure Known (ops : Array Oper) (T : Nat → World → Value → Prop) (a0 : Act) (o : Oper) (a : Act) (w : World) : Prop where
 old : ∀ s, freeOf (some s) ops.toList = true → a.eval (.tmp s) = a0.eval (.tmp s)
 dep : ∀ e ∈ o.after, Region.binds .any e = true → ∀ oj s, ops[e.on]? = some oj → oj.dst = some s → s < a0.tmps.size → T e.on w (a.eval (.tmp s))
def Ob (P : Program) (ops : Array Oper) (Q : Exit → Act → World → Prop) (C : World → Prop) (R : World → World → Prop) (T : Nat → World → Value → Prop) (a0 : Act) (i : Nat) (o : Oper) : Prop :=
 o.guard = none ∧ ∀ a w, C w → Known ops T a0 o a w → o.wp P a w (fun a' w' => ∃ v, a' = a.put o.dst v ∧ C w' ∧ R w w' ∧ T i w' v) Q
def ObAll (P : Program) (ops : Array Oper) (Q : Exit → Act → World → Prop) (C : World → Prop) (R : World → World → Prop) (T : Nat → World → Value → Prop) (a0 : Act) : List Oper → Nat → Prop
 | [], _ => True
 | o :: r, k => Ob P ops Q C R T a0 k o ∧ ObAll P ops Q C R T a0 r (k + 1)
theorem ObAll.get {C : World → Prop} {R : World → World → Prop} {T : Nat → World → Value → Prop} {a0 : Act} : ∀ (l : List Oper) (k i : Nat) (o : Oper), ObAll P ops Q C R T a0 l k → l[i]? = some o → Ob P ops Q C R T a0 (k + i) o := by
 intro l
 induction l with
 | nil => intro k i o _ h; simp at h
 | cons o' r ih =>
  intro k i o hall h
  rcases i with _ | i
  ·simp at h; subst h; exact hall.1
  ·rw [show k + (i + 1) = k + 1 + i by omega]
   exact ih (k + 1) i o hall.2 (by simpa using h)
def backB : List Oper → Nat → Bool
 | [], _ => true
 | o :: r, k => o.after.all (fun e => !Region.binds .any e || decide (e.on < k)) && backB r (k + 1)
theorem backB_get : ∀ (l : List Oper) (k i : Nat) (o : Oper), backB l k = true → l[i]? = some o → ∀ e ∈ o.after, Region.binds .any e = true → e.on < k + i := by
 intro l
 induction l with
 | nil => intro k i o _ h; simp at h
 | cons o' r ih =>
  intro k i o hall h e he hb
  simp only [backB, Bool.and_eq_true] at hall
  rcases i with _ | i
  ·simp at h
   subst h
   have := (Array.all_eq_true_iff_forall_mem.1 hall.1) e he
   simpa [hb] using this
  ·have := ih (k + 1) i o hall.2 (by simpa using h) e he hb
   omega
theorem fillL_all (vs : Nat → Value) (on : Nat → Bool) : ∀ (l : List Oper) (k : Nat) (a : Act), (∀ j, k ≤ j → j < k + l.length → on j = true) → fillL vs on l k a = fillL vs (fun _ => true) l k a := by
 intro l
 induction l with
 | nil => intro k a h; rfl
 | cons o r ih =>
  intro k a h
  show fillL vs on r (k + 1) (if on k = true then a.put o.dst (vs k) else a) = fillL vs (fun _ => true) r (k + 1) (if true = true then a.put o.dst (vs k) else a)
  rw [if_pos (h k (Nat.le_refl _) (by simp)), if_pos rfl, ih (k + 1) _ (fun j h1 h2 => h j (by omega) (by simp at *; omega))]
theorem wp_region_anyord {id : Nat} {a0 : Act} {w : World} (C : World → Prop) (R : World → World → Prop) (T : Nat → World → Value → Prop) (hm : P.follows .mixedOrders = true)
  (hap : apartAll ops.toList = true) (hbk : backB ops.toList 0 = true)
  (hst : ∀ j w w' v, R w w' → T j w v → T j w' v) (hC : C { w with drawn := w.drawn + 1 })
  (hob : ObAll P ops Q C R T a0 ops.toList 0)
  (hQ : ∀ vs w', C w' → (∀ i, i < ops.size → T i w' (vs i)) → Q .normal (fillL vs (fun _ => true) ops.toList 0 a0) w') : (Code.region id ops true).wp P Q a0 w := by
 refine wp_region_any hm (wpAny_of_inv (Inv := fun listed a w => listed.size = ops.size ∧ C w ∧ ∃ vs, a = fillL vs (fun j => listed.getD j false) ops.toList 0 a0 ∧ ∀ i, listed.getD i false = true → T i w (vs i)) ?_ ?_ _ _ _ _ ⟨by simp, hC, fun _ => undef, ?_, ?_⟩ ?_)
 ·intro listed a w i ⟨hsz, hCw, vs, ha, hT⟩ hi
  obtain ⟨hun, o, ho, hdeps⟩ := mem_ready.1 hi
  have hil : i < ops.size := (Array.getElem?_eq_some_iff.1 ho).1
  have hol : ops.toList[i]? = some o := by rw [Array.getElem?_toList]; exact ho
  have hunf : listed.getD i false = false := by
   have h1 : i < listed.size := by omega
   simp [h1] at hun ⊢
   exact hun
  have hObi := hob.get ops.toList 0 i o hol
  rw [Nat.zero_add] at hObi
  obtain ⟨hg, hwp⟩ := hObi
  have hK : Known ops T a0 o a w := by
   refine ⟨fun s hs => by rw [ha]; exact fillL_other vs _ s _ 0 a0 hs, fun e he hbe oj s hoj hd hs => ?_⟩
   have hl := hdeps e he hbe
   have := fillL_at vs (fun j => listed.getD j false) s ops.toList 0 e.on oj a0 hap (by rw [Array.getElem?_toList]; exact hoj) hd (by rw [Nat.zero_add]; exact hl) hs
   rw [Nat.zero_add] at this
   rw [ha, this]
   exact hT e.on hl
  unfold wpOp
  rw [ho]
  have hw : Region.wanted o (yielded ops a.tmps) = true := by simp [Region.wanted, hg]
  simp only [hw, if_true]
  refine .inl (Oper.wp_mono (fun a' w' ⟨v, ha', hC', hR, hTv⟩ => ?_) (hwp a w hCw hK))
  refine ⟨by simpa using hsz, hC', upd vs i v, ?_, fun j hj => ?_⟩
  ·have hs := fillL_step vs (fun j => listed.getD j false) v ops.toList 0 i o a0 hap hol (by rw [Nat.zero_add]; exact hunf)
   rw [Nat.zero_add] at hs
   rw [ha', ha, ← hs]
   refine fillL_congr _ 0 _ fun j _ => ⟨?_, fun _ => rfl⟩
   unfold upd
   by_cases hj : j = i
   ·subst hj
    have h1 : j < listed.size := by omega
    simp [h1]
   ·rw [if_neg hj]
    simp [Array.getD_eq_getD_getElem?, Ne.symm hj]
  ·by_cases hji : j = i
   ·subst hji; simpa [upd] using hTv
   ·have h2 : listed.getD j false = true := by
     simpa [Array.getD_eq_getD_getElem?, Array.getElem?_setIfInBounds, Ne.symm hji] using hj
    have := hst j w w' _ hR (hT j h2)
    simpa [upd, hji] using this
 ·intro listed a w ⟨hsz, hCw, vs, ha, hT⟩ h0
  have hall : ∀ n j, j < n → j < ops.size → listed.getD j false = true := by
   intro n
   induction n with
   | zero => intro j h; omega
   | succ n ih =>
    intro j hj hjs
    rcases Nat.lt_or_ge j n with h1 | h1
    ·exact ih j h1 hjs
    obtain rfl : j = n := by omega
    cases hl : listed.getD j false with
    | true => rfl
    | false =>
     exfalso
     have hmem : j ∈ Region.ready .any ops listed := by
      refine mem_ready.2 ⟨?_, ops[j], Array.getElem?_eq_getElem hjs, fun e he hbe => ?_⟩
      ·have h1 : j < listed.size := by omega
       simp [h1] at hl ⊢
       exact hl
      ·have := backB_get ops.toList 0 j ops[j] hbk (by rw [Array.getElem?_toList]; exact Array.getElem?_eq_getElem hjs) e he hbe
       exact ih e.on (by omega) (by omega)
     rw [h0] at hmem
     cases hmem
  rw [ha, fillL_all vs _ ops.toList 0 a0 (fun j _ h => hall ops.size j (by simpa using h) (by simpa using h))]
  exact hQ vs w hCw fun i hi => hT i (hall ops.size i hi hi)
 ·symm
  have : ∀ (l : List Oper) k, fillL (fun _ => undef) (fun j => (Array.replicate ops.size false).getD j false) l k a0 = a0 := by
   intro l
   induction l with
   | nil => intro k; rfl
   | cons o r ih =>
    intro k
    show fillL _ _ r (k + 1) (if (Array.replicate ops.size false).getD k false = true then _ else a0) = a0
    rw [if_neg (by simp [Array.getD_eq_getD_getElem?, Array.getElem?_replicate]; split <;> simp)]
    exact ih (k + 1)
  exact this _ _
 ·intro i hi
  exfalso
  simp [Array.getD_eq_getD_getElem?, Array.getElem?_replicate] at hi
  split at hi <;> simp at hi
 ·have : (Array.replicate ops.size false).toList.count false = ops.size := by simp
  omega
end
end Go.Proofs.YtioldepgoodipaaGreat
namespace Go.Proofs.YtioldepgoodipaaGreat
open Go.RowKit
set_option linter.unusedVariables false

section
variable {P : Program} {o : Oper} {a : Act} {w : World} {K : Act → World → Prop} {Q : Exit → Act → World → Prop}
theorem ob_value {v : Value} {w' : World} (h : (execOp a.eval o).run P w = .ok (.value v) w') (hk : K (a.put o.dst v) w') : o.wp P a w K Q := by
 unfold Oper.wp
 rw [h]
 exact hk
theorem ob_skip {w' : World} (h : (execOp a.eval o).run P w = .ok .skip w') (hk : K (a.put o.dst undef) w') : o.wp P a w K Q := by
 unfold Oper.wp
 rw [h]
 exact hk
theorem ob_move {x : Operand} (ho : o.op = .move x) (hk : K (a.put o.dst (a.eval x)) w) : o.wp P a w K Q := ob_value (BigFrame.run_move x ho w) hk
theorem ob_call {f : FuncId} {fn : Func} {xs : Array Operand} {ats : Array TypeId} {vals : Array Value} (ho : o.op = .call { callee := .value (.func f), args := xs, argTypes := ats })
  (hf : P.funcs[f]? = some fn) (hn : (fn.name == "runtime.NumGoroutine") = false) (hb : fn.body.isNone = false) (hv : xs.map a.eval = vals)
  (h : Calls P f vals w fun e w' => ∃ v, e = .returned v ∧ K (a.put o.dst v) w') : o.wp P a w K Q := by
 obtain ⟨dst, op, type, pos, after, guard⟩ := o
 simp only at ho
 subst ho
 unfold Oper.wp
 have hrun : (execOp a.eval { dst, op := .call { callee := .value (.func f), args := xs, argTypes := ats }, type := type, pos, after, guard }).run P w = .ok (.enter f vals) w := by
  rw [execOp_call_go, hv]
  have hn' : ¬ fn.name = "runtime.NumGoroutine" := by simpa using hn
  have hb' : ¬ fn.body = none := by
   intro q
   rw [q] at hb
   simp at hb
  unfold callFunc
  simp [hf, hn', hb']
 rw [hrun]
 exact h.mono fun e w' ⟨v, he, hk⟩ => by subst he; exact hk
end

def IsI (v : Value) : Prop := ∃ x : Int, v = .int .i64 x ∧ -9000000000 ≤ x ∧ x ≤ 9000000000
def LitAt (T : TypeId) (S n : Nat) (lo hi : Int) (w : World) (v : Value) : Prop :=
 ∃ G row, v = .slice (some ⟨G, 0, none⟩) n n ∧ G ≠ S ∧ G < w.heap.size ∧ w.heap[G]? = some (.cells row T (0, 0)) ∧ ∀ k, k < n → ∃ x : Int, row[k]? = some (.int .i64 x) ∧ lo ≤ x ∧ x ≤ hi
def PickAt (T : TypeId) (S : Nat) (lo hi : Int) (w : World) (v : Value) : Prop :=
 ∃ G k row x, v = .pointer (some ⟨G, k, none⟩) ∧ G ≠ S ∧ G < w.heap.size ∧ w.heap[G]? = some (.cells row T (0, 0)) ∧ row[k]? = some (.int .i64 x) ∧ lo ≤ x ∧ x ≤ hi
def RStep (S : Nat) (F : World → Nat → Prop) (w w' : World) : Prop := w.heap.size ≤ w'.heap.size ∧ ∀ k, k < w.heap.size → k ≠ S → w'.heap[k]? = w.heap[k]? ∨ (F w k ∧ F w' k)
theorem RStep.refl (S : Nat) (F : World → Nat → Prop) (w : World) : RStep S F w w := ⟨Nat.le_refl _, fun _ _ _ => .inl rfl⟩
theorem LitAt.kept {T : TypeId} {S n : Nat} {lo hi : Int} {F : World → Nat → Prop} {w w' : World} {v : Value} (hF : ∀ w k, F w k → ∀ row, w.heap[k]? ≠ some (.cells row T (0, 0))) (hR : RStep S F w w') (h : LitAt T S n lo hi w v) : LitAt T S n lo hi w' v := by
 obtain ⟨G, row, e, h1, h2, h3, h4⟩ := h
 refine ⟨G, row, e, h1, Nat.lt_of_lt_of_le h2 hR.1, ?_, h4⟩
 rcases hR.2 G h2 h1 with q | ⟨q, _⟩
 ·rw [q]; exact h3
 ·exact absurd h3 (hF w G q row)
theorem PickAt.kept {T : TypeId} {S : Nat} {lo hi : Int} {F : World → Nat → Prop} {w w' : World} {v : Value} (hF : ∀ w k, F w k → ∀ row, w.heap[k]? ≠ some (.cells row T (0, 0))) (hR : RStep S F w w') (h : PickAt T S lo hi w v) : PickAt T S lo hi w' v := by
 obtain ⟨G, k, row, x, e, h1, h2, h3, h4⟩ := h
 refine ⟨G, k, row, x, e, h1, Nat.lt_of_lt_of_le h2 hR.1, ?_, h4⟩
 rcases hR.2 G h2 h1 with q | ⟨q, _⟩
 ·rw [q]; exact h3
 ·exact absurd h3 (hF w G q row)
end Go.Proofs.YtioldepgoodipaaGreat
namespace Go.Proofs.YtioldepgoodipaaGreat
open Go.RowKit
set_option linter.unusedVariables false

section
variable {P : Program} {ops : Array Oper} {Q : Exit → Act → World → Prop}
structure KnownZ (ops : Array Oper) (T : Nat → World → Value → Value → Prop) (x : Value) (a0 : Act) (o : Oper) (a : Act) (w : World) : Prop where
 old : ∀ s, freeOf (some s) ops.toList = true → a.eval (.tmp s) = a0.eval (.tmp s)
 dep : ∀ e ∈ o.after, Region.binds .any e = true → ∀ oj s, ops[e.on]? = some oj → oj.dst = some s → s < a0.tmps.size → T e.on w x (a.eval (.tmp s))
def ObZ (P : Program) (ops : Array Oper) (Q : Exit → Act → World → Prop) (z : Nat) (C : World → Prop) (R : World → World → Prop) (T : Nat → World → Value → Value → Prop) (a0 : Act) (i : Nat) (o : Oper) : Prop :=
 o.guard = none ∧ ∀ a w x, C w → KnownZ ops T x a0 o a w → o.wp P a w (fun a' w' => ∃ v, a' = a.put o.dst v ∧ C w' ∧ R w w' ∧ T i w' (if i = z then v else x) v) Q
def ObAllZ (P : Program) (ops : Array Oper) (Q : Exit → Act → World → Prop) (z : Nat) (C : World → Prop) (R : World → World → Prop) (T : Nat → World → Value → Value → Prop) (a0 : Act) : List Oper → Nat → Prop
 | [], _ => True
 | o :: r, k => ObZ P ops Q z C R T a0 k o ∧ ObAllZ P ops Q z C R T a0 r (k + 1)
theorem ObAllZ.get {z : Nat} {C : World → Prop} {R : World → World → Prop} {T : Nat → World → Value → Value → Prop} {a0 : Act} : ∀ (l : List Oper) (k i : Nat) (o : Oper), ObAllZ P ops Q z C R T a0 l k → l[i]? = some o → ObZ P ops Q z C R T a0 (k + i) o := by
 intro l
 induction l with
 | nil => intro k i o _ h; simp at h
 | cons o' r ih =>
  intro k i o hall h
  rcases i with _ | i
  ·simp at h; subst h; exact hall.1
  ·rw [show k + (i + 1) = k + 1 + i by omega]
   exact ih (k + 1) i o hall.2 (by simpa using h)
theorem KnownZ.get {T : Nat → World → Value → Value → Prop} {x : Value} {a0 : Act} {o : Oper} {a : Act} {w : World} (hK : KnownZ ops T x a0 o a w) (k s : Nat) {oj : Oper} (he : o.after.any (fun e => (e.on == k) && Region.binds .any e) = true) (hoj : ops[k]? = some oj) (hd : oj.dst = some s)
  (hs : Nat.ble (s + 1) a0.tmps.size = true) : T k w x (a.eval (.tmp s)) := by
 obtain ⟨e, he1, he2⟩ := Array.any_eq_true'.1 he
 simp only [Bool.and_eq_true] at he2
 have hk : e.on = k := by simpa using he2.1
 subst hk
 exact hK.dep e he1 he2.2 oj s hoj hd (Nat.le_of_ble_eq_true hs)
theorem wp_region_anyordZ {id : Nat} {a0 : Act} {w : World} (z : Nat) (C : World → Prop) (R : World → World → Prop) (T : Nat → World → Value → Value → Prop) (hm : P.follows .mixedOrders = true)
  (hap : apartAll ops.toList = true) (hbk : backB ops.toList 0 = true)
  (hst : ∀ j w w' x v, R w w' → T j w x v → T j w' x v) (hind : ∀ j o, ops[j]? = some o → j ≠ z → (o.after.any fun e => Region.binds .any e && (e.on == z)) = false → ∀ w x x' v, T j w x v → T j w x' v) (hC : C { w with drawn := w.drawn + 1 })
  (hob : ObAllZ P ops Q z C R T a0 ops.toList 0)
  (hQ : ∀ vs w', C w' → (∀ i, i < ops.size → T i w' (vs z) (vs i)) → Q .normal (fillL vs (fun _ => true) ops.toList 0 a0) w') : (Code.region id ops true).wp P Q a0 w := by
 refine wp_region_any hm (wpAny_of_inv (Inv := fun listed a w => listed.size = ops.size ∧ C w ∧ ∃ vs, a = fillL vs (fun j => listed.getD j false) ops.toList 0 a0 ∧ (∀ i, listed.getD i false = true → T i w (vs z) (vs i)) ∧ ∀ j o, listed.getD j false = true → ops[j]? = some o → ∀ e ∈ o.after, Region.binds .any e = true → listed.getD e.on false = true) ?_ ?_ _ _ _ _ ⟨by simp, hC, fun _ => undef, ?_, ?_, ?_⟩ ?_)
 ·intro listed a w i ⟨hsz, hCw, vs, ha, hT, hcl⟩ hi
  obtain ⟨hun, o, ho, hdeps⟩ := mem_ready.1 hi
  have hil : i < ops.size := (Array.getElem?_eq_some_iff.1 ho).1
  have hol : ops.toList[i]? = some o := by rw [Array.getElem?_toList]; exact ho
  have hunf : listed.getD i false = false := by
   have h1 : i < listed.size := by omega
   simp [h1] at hun ⊢
   exact hun
  have hObi := hob.get ops.toList 0 i o hol
  rw [Nat.zero_add] at hObi
  obtain ⟨hg, hwp⟩ := hObi
  have hK : KnownZ ops T (vs z) a0 o a w := by
   refine ⟨fun s hs => by rw [ha]; exact fillL_other vs _ s _ 0 a0 hs, fun e he hbe oj s hoj hd hs => ?_⟩
   have hl := hdeps e he hbe
   have := fillL_at vs (fun j => listed.getD j false) s ops.toList 0 e.on oj a0 hap (by rw [Array.getElem?_toList]; exact hoj) hd (by rw [Nat.zero_add]; exact hl) hs
   rw [Nat.zero_add] at this
   rw [ha, this]
   exact hT e.on hl
  unfold wpOp
  rw [ho]
  have hw : Region.wanted o (yielded ops a.tmps) = true := by simp [Region.wanted, hg]
  simp only [hw, if_true]
  refine .inl (Oper.wp_mono (fun a' w' ⟨v, ha', hC', hR, hTv⟩ => ?_) (hwp a w (vs z) hCw hK))
  refine ⟨by simpa using hsz, hC', upd vs i v, ?_, fun j hj => ?_, fun j oj hj hoj e he hbe => ?_⟩
  ·have hs := fillL_step vs (fun j => listed.getD j false) v ops.toList 0 i o a0 hap hol (by rw [Nat.zero_add]; exact hunf)
   rw [Nat.zero_add] at hs
   rw [ha', ha, ← hs]
   refine fillL_congr _ 0 _ fun j _ => ⟨?_, fun _ => rfl⟩
   unfold upd
   by_cases hj : j = i
   ·subst hj
    have h1 : j < listed.size := by omega
    simp [h1]
   ·rw [if_neg hj]
    simp [Array.getD_eq_getD_getElem?, Ne.symm hj]
  ·by_cases hji : j = i
   ·subst hji
    have e1 : upd vs j v z = if j = z then v else vs z := by
     unfold upd
     by_cases hz : z = j
     ·rw [if_pos hz, if_pos hz.symm]
     ·rw [if_neg hz, if_neg (Ne.symm hz)]
    rw [e1]
    simpa [upd] using hTv
   ·have h2 : listed.getD j false = true := by
     simpa [Array.getD_eq_getD_getElem?, Array.getElem?_setIfInBounds, Ne.symm hji] using hj
    have h3 := hst j w w' _ _ hR (hT j h2)
    have e2 : upd vs i v j = vs j := by unfold upd; rw [if_neg hji]
    rw [e2]
    by_cases hz : z = i
    ·subst hz
     have hjs : j < ops.size := by
      rcases Nat.lt_or_ge j ops.size with h | h
      ·exact h
      ·rw [Array.getD_eq_getD_getElem?, Array.getElem?_eq_none (by omega)] at h2
       cases h2
     refine hind j ops[j] (Array.getElem?_eq_getElem hjs) hji ?_ w' _ _ _ h3
     rw [Bool.eq_false_iff]
     intro hany
     obtain ⟨e, he1, he2⟩ := Array.any_eq_true'.1 hany
     simp only [Bool.and_eq_true, beq_iff_eq] at he2
     have := hcl j ops[j] h2 (Array.getElem?_eq_getElem hjs) e he1 he2.1
     rw [he2.2, hunf] at this
     cases this
    ·have e3 : upd vs i v z = vs z := by unfold upd; rw [if_neg hz]
     rw [e3]
     exact h3
  ·have hset : ∀ k, listed.getD k false = true → (listed.setIfInBounds i true).getD k false = true := by
    intro k hk
    by_cases hki : k = i
    ·subst hki
     have h1 : k < listed.size := by omega
     simp [Array.getD_eq_getD_getElem?, h1]
    ·simpa [Array.getD_eq_getD_getElem?, Array.getElem?_setIfInBounds, Ne.symm hki] using hk
   by_cases hji : j = i
   ·subst hji
    rw [ho] at hoj
    obtain rfl := Option.some.inj hoj
    exact hset _ (hdeps e he hbe)
   ·have h2 : listed.getD j false = true := by
     simpa [Array.getD_eq_getD_getElem?, Array.getElem?_setIfInBounds, Ne.symm hji] using hj
    exact hset _ (hcl j oj h2 hoj e he hbe)
 ·intro listed a w ⟨hsz, hCw, vs, ha, hT, _⟩ h0
  have hall : ∀ n j, j < n → j < ops.size → listed.getD j false = true := by
   intro n
   induction n with
   | zero => intro j h; omega
   | succ n ih =>
    intro j hj hjs
    rcases Nat.lt_or_ge j n with h1 | h1
    ·exact ih j h1 hjs
    obtain rfl : j = n := by omega
    cases hl : listed.getD j false with
    | true => rfl
    | false =>
     exfalso
     have hmem : j ∈ Region.ready .any ops listed := by
      refine mem_ready.2 ⟨?_, ops[j], Array.getElem?_eq_getElem hjs, fun e he hbe => ?_⟩
      ·have h1 : j < listed.size := by omega
       simp [h1] at hl ⊢
       exact hl
      ·have := backB_get ops.toList 0 j ops[j] hbk (by rw [Array.getElem?_toList]; exact Array.getElem?_eq_getElem hjs) e he hbe
       exact ih e.on (by omega) (by omega)
     rw [h0] at hmem
     cases hmem
  rw [ha, fillL_all vs _ ops.toList 0 a0 (fun j _ h => hall ops.size j (by simpa using h) (by simpa using h))]
  exact hQ vs w hCw fun i hi => hT i (hall ops.size i hi hi)
 ·symm
  have : ∀ (l : List Oper) k, fillL (fun _ => undef) (fun j => (Array.replicate ops.size false).getD j false) l k a0 = a0 := by
   intro l
   induction l with
   | nil => intro k; rfl
   | cons o r ih =>
    intro k
    show fillL _ _ r (k + 1) (if (Array.replicate ops.size false).getD k false = true then _ else a0) = a0
    rw [if_neg (by simp [Array.getD_eq_getD_getElem?, Array.getElem?_replicate]; split <;> simp)]
    exact ih (k + 1)
  exact this _ _
 ·intro i hi
  exfalso
  simp [Array.getD_eq_getD_getElem?, Array.getElem?_replicate] at hi
  split at hi <;> simp at hi
 ·intro i o hi
  exfalso
  simp [Array.getD_eq_getD_getElem?, Array.getElem?_replicate] at hi
  split at hi <;> simp at hi
 ·have : (Array.replicate ops.size false).toList.count false = ops.size := by simp
  omega
end
end Go.Proofs.YtioldepgoodipaaGreat
namespace Go.Proofs.YtioldepgoodipaaGreat
open Go.RowKit
set_option linter.unusedVariables false

def nC (x : Int) : List Value := [.int .i64 x]
theorem nC_len (x : Int) : (nC x).length = 1 := rfl
theorem nC_one (x : Int) : ∀ u ∈ nC x, u.oneCell' = true := by
 intro u hu
 simp [nC] at hu
 subst hu
 rfl
theorem NumsIn.rs {w : World} {a : Option Addr} {l : List Int} (h : NumsIn w a l) : RsIn nC 1 w a l := by
 rcases h with h | ⟨b, o, rfl, hlt, hc⟩
 ·exact .inl h
 ·refine .inr ⟨b, o, rfl, hlt, fun i x hx j v hv => ?_⟩
  rcases j with _ | j
  ·simp [nC] at hv
   subst hv
   rw [Nat.mul_one]
   exact hc i x hx
  ·simp [nC] at hv
theorem RsNew.nums {e : TypeId} {lo hi : Nat} {w : World} {a : Option Addr} {l : List Int} (h : RsNew nC 1 e lo hi w a l) : NumsNew lo hi w a l := by
 rcases h with h | ⟨b, o, row, rfl, h1, h2, hg, hs, hc⟩
 ·exact .inl h
 ·refine .inr ⟨b, o, rfl, h1, h2, (Array.getElem?_eq_some_iff.1 hg).1, fun j hj => frozen_of_row w b (o + j) _ _ hg, fun i x hx => ?_⟩
  have := hc i x hx 0 _ rfl
  rw [Nat.mul_one, Nat.add_zero] at this
  exact (cell_of_row w b (o + i) row e (0, 0) hg).trans this
section
variable {P : Program} {o : Oper} {a : Act} {w : World} {K : Act → World → Prop} {Q : Exit → Act → World → Prop}
theorem ob_put_row (ty : TypeId) (x y : Operand) (ho : o.op = .store ty x y) (g : Nat) (hx : a.eval x = .pointer (some ⟨g, 0, none⟩)) (v : Value) (hy : a.eval y = v) (cells : Array Value) (hcs : v.cells = cells)
  (t : TypeId) (old new : Array Value) (hg : w.heap[g]? = some (.cells old t (0, 0))) (hi : (P.info? ty).map (·.size) = some cells.size) (hk0 : Nat.ble (0 + cells.size) old.size = true) (h1 : cells.toList.all (·.oneCell') = true) (hnew : setAll old 0 cells.toList = new)
  (h : ∀ w', w'.heap[g]? = some (.cells new t (0, 0)) → Out g (g + 1) w w' → K (a.put o.dst undef) w') : o.wp P a w K Q := by
 have hk : 0 + cells.size ≤ old.size := Nat.le_of_ble_eq_true hk0
 have ht : w.there g 0 cells.size := fun j hj => by
  refine ⟨?_, frozen_of_row w g (0 + j) old t hg⟩
  rw [cell_of_row w g (0 + j) old t (0, 0) hg, Array.getElem?_eq_getElem (by omega)]
  rfl
 have hrun := run_storeCells_cells (P := P) g 0 cells.toList 0 w (fun j hj => by simpa using (ht j (by simpa using hj)).1) (fun j hj => by simpa using (ht j (by simpa using hj)).2)
  (fun v hv => List.all_eq_true.1 h1 v hv)
 have hrun2 : (storeVar ty ⟨g, 0, none⟩ v).run P w = .ok () (w.setCells g 0 cells.toList) := by
  cases hq : P.info? ty with
  | none => simp [hq] at hi
  | some i =>
   have hs : cells.size = i.size := by simp [hq] at hi; omega
   simp only [Nat.add_zero] at hrun
   simp [storeVar, sizeOf, typeInfo, hq, hcs, hs, hrun]
 refine ob_skip (w' := w.setCells g 0 cells.toList) ?_ (h _ (hnew ▸ heap_setCells g t cells.toList w 0 old hg) (out_setCells g cells.toList w 0))
 unfold execOp
 simp only [ho, hx, hy, Instr.storeAt, Instr.sureAddr, Sem.run_bind, Sem.run_pure, Result.andThen_ok, hrun2]
end
end Go.Proofs.YtioldepgoodipaaGreat
namespace Go.Proofs.YtioldepgoodipaaGreat
open Go.RowKit
set_option linter.unusedVariables false

def gtB (g : Gt) : Bool := decide (ixD g.p < 6) && (inB 0 255 g.s && ((g.dt.size : Int) == (defD g.p).s))
theorem defD_zero (p : Int) : ((defD p).s == 0) = !(decide (ixD p < 6)) := by
 have h := ixD_le p
 unfold defD
 generalize ixD p = i at *
 rcases i with _ | _ | _ | _ | _ | _ | _ | i
 all_goals first | decide | omega
def ansO (PP SS RR : Int) (NN : Nat) (p : Int) (B : Nat) : Obj := .cells #[.int .i64 PP, .int .i64 SS, .int .i64 RR, .slice (aD B p) NN NN] 81 (0, 0)
def zeroO : Obj := .cells #[.int .i64 0, .int .i64 0, .int .i64 0, .slice none 0 0] 81 (0, 0)
def RG (A : Nat → Obj) (W W' : World) : Prop := W.heap.size ≤ W'.heap.size ∧ ∀ k, k < W.heap.size → W'.heap[k]? = W.heap[k]? ∨ ((W.heap[k]? = some zeroO ∨ ∃ B, W.heap[k]? = some (A B)) ∧ ∃ B, W'.heap[k]? = some (A B))
section
variable {PP SS RR p : Int} {NN : Nat} {W W' : World}
theorem RG.refl (A : Nat → Obj) (W : World) : RG A W W := ⟨Nat.le_refl _, fun _ _ => .inl rfl⟩
theorem RG.below (A : Nat → Obj) (h : Below W.heap.size W W') : RG A W W' := ⟨h.size, fun k hk => .inl (h.block k hk)⟩
theorem RG.tab (h : RG (ansO PP SS RR NN p) W W') {B G : Nat} (k : TabAt B G W) : TabAt B G W' := by
 refine ⟨?_, fun i x hx => ?_⟩
 ·rcases h.2 G (Array.getElem?_eq_some_iff.1 k.rows).1 with q | ⟨q | ⟨B', q⟩, _⟩
  ·exact q.trans k.rows
  ·have := k.rows.symm.trans q
   unfold zeroO at this
   simp [dxs, dxL] at this
  ·have := k.rows.symm.trans q
   unfold ansO at this
   simp [dxs, dxL] at this
 ·have hk := k.flds i x hx
  rcases h.2 _ (Array.getElem?_eq_some_iff.1 hk).1 with q | ⟨q | ⟨B', q⟩, _⟩
  ·exact q.trans hk
  ·have := hk.symm.trans q
   unfold zeroO at this
   simp at this
  ·have := hk.symm.trans q
   unfold ansO at this
   simp at this
end
def TGR (R1 lo : Nat) (PP SS RR : Int) (NN : Nat) (p : Int) (DD : Bool) : Nat → World → Value → Value → Prop
 | 0, W, _, v => ∃ G B, v = .slice (some ⟨G, 0, none⟩) 6 6 ∧ TabAt B G W
 | 1, _, _, v => v = .pointer (some ⟨R1, 1, none⟩)
 | 2, _, _, v => v = .int .i64 p
 | 3, _, _, v => ∃ B, v = .tuple #[.agg #[.int .i64 PP, .int .i64 SS, .int .i64 RR, .slice (aD B p) NN NN], .bool DD]
 | 4, _, _, v => ∃ B, v = .tuple #[.agg #[.int .i64 PP, .int .i64 SS, .int .i64 RR, .slice (aD B p) NN NN], .bool DD]
 | 5, _, _, v => ∃ B, v = .agg #[.int .i64 PP, .int .i64 SS, .int .i64 RR, .slice (aD B p) NN NN]
 | 6, _, _, v => v = .bool DD
 | 7, W, x, v => v = x ∧ ∃ k, x = .pointer (some ⟨k, 0, none⟩) ∧ lo ≤ k ∧ (W.heap[k]? = some zeroO ∨ ∃ B, W.heap[k]? = some (ansO PP SS RR NN p B))
 | 8, W, x, _ => ∃ k, x = .pointer (some ⟨k, 0, none⟩) ∧ lo ≤ k ∧ ∃ B, W.heap[k]? = some (ansO PP SS RR NN p B)
 | 9, _, _, v => v = .bool DD
 | _ + 10, _, _, _ => True
theorem TGR.kept {R1 lo : Nat} {PP SS RR : Int} {NN : Nat} {p : Int} {DD : Bool} : ∀ j w w' x v, RG (ansO PP SS RR NN p) w w' → TGR R1 lo PP SS RR NN p DD j w x v → TGR R1 lo PP SS RR NN p DD j w' x v
 | 0, _, _, _, _, hR, ⟨G, B, h1, h2⟩ => ⟨G, B, h1, hR.tab h2⟩
 | 1, _, _, _, _, _, h | 2, _, _, _, _, _, h | 3, _, _, _, _, _, h | 4, _, _, _, _, _, h | 5, _, _, _, _, _, h | 6, _, _, _, _, _, h | 9, _, _, _, _, _, h => h
 | 7, _, _, _, _, hR, ⟨h1, k, h2, h3, h4⟩ => by
  refine ⟨h1, k, h2, h3, ?_⟩
  have hk : k < _ := h4.elim (fun h => (Array.getElem?_eq_some_iff.1 h).1) (fun ⟨B, h⟩ => (Array.getElem?_eq_some_iff.1 h).1)
  rcases hR.2 k hk with q | ⟨_, q⟩
  ·rw [q]; exact h4
  ·exact .inr q
 | 8, _, _, _, _, hR, ⟨k, h2, h3, B, h4⟩ => by
  refine ⟨k, h2, h3, ?_⟩
  rcases hR.2 k (Array.getElem?_eq_some_iff.1 h4).1 with q | ⟨_, q⟩
  ·exact ⟨B, q.trans h4⟩
  ·exact q
 | _ + 10, _, _, _, _, _, h => h
set_option maxRecDepth 100000 in
set_option maxHeartbeats 16000000 in
theorem gotRight_any (x : Gt) (w : World) (hlen : x.dt.size ≤ maxLen) :
  Calls Tryz.prog 132 #[.agg (gtL x).toArray] w fun e w' => e = .returned (.bool (gtB x)) ∧ Below w.heap.size w w' := by
 obtain ⟨s, p, dt⟩ := x
 have HB := Lib.hid (show gtB ⟨s, p, dt⟩ = (decide (ixD p < 6) && (inB 0 255 s && ((dt.size : Int) == (defD p).s))) from rfl)
 have HRow := fun B G W h => Lib.hid (rowOf_d B G p W h)
 unfold gtL
 dsimp only at *
 unfold maxLen at hlen
 generalize gtB ⟨s, p, dt⟩ = RES at *
 generalize hDD : decide (ixD p < 6) = DD at *
 generalize hP : (defD p).p = PP at *
 generalize hS : (defD p).s = SS at *
 generalize hR : (defD p).r = RR at *
 generalize hF : (defD p).fs.length = NN at *
 clear hDD hP hS hR hF
 go_enter Tryz.func132, Tryz.ntmps132
 go_wp2_with (first
  | (refine wpList_box_h rfl 144 (.tmp 0) rfl #[.int .i64 s, .int .i64 p, .string dt] rfl ?_; intro w1 R1 e1 g1 b1; have HL1 := Lib.hid (show Lg w w1 [(R1, #[.int .i64 s, .int .i64 p, .string dt], 144)] [] from (Lg.first w).box e1 g1 b1); clear g1 b1 e1))
 have HRB := Lib.hid (HL1.out.get (.head _))
 have hR1 : R1 < w1.heap.size := HL1.out.lt (.head _)
 refine wp_region_anyordZ 7 (fun W => Below w1.heap.size w1 W) (RG (ansO PP SS RR NN p)) (TGR R1 w1.heap.size PP SS RR NN p DD) (by kernel_rfl) (by kernel_rfl) (by kernel_rfl) TGR.kept ?_ (Below.refl _ _).drew ?_ ?_
 ·intro j o ho hz hd ww x x' v hT
  rcases j with _ | _ | _ | _ | _ | _ | _ | _ | _ | _ | j
  ·exact hT
  ·exact hT
  ·exact hT
  ·exact hT
  ·exact hT
  ·exact hT
  ·exact hT
  ·exact absurd rfl hz
  ·cases ho
   exact absurd (hd.symm.trans (show _ = true from by kernel_rfl)) (by simp)
  ·exact hT
  ·trivial
 ·refine ⟨⟨rfl, fun a1 W x hC hK => ?_⟩, ⟨rfl, fun a1 W x hC hK => ?_⟩, ⟨rfl, fun a1 W x hC hK => ?_⟩, ⟨rfl, fun a1 W x hC hK => ?_⟩, ⟨rfl, fun a1 W x hC hK => ?_⟩, ⟨rfl, fun a1 W x hC hK => ?_⟩, ⟨rfl, fun a1 W x hC hK => ?_⟩, ⟨rfl, fun a1 W x hC hK => ?_⟩, ⟨rfl, fun a1 W x hC hK => ?_⟩, ⟨rfl, fun a1 W x hC hK => ?_⟩, trivial⟩
  ·refine ob_call rfl Tryz.func103 (by kernel_rfl) (by kernel_rfl) (vals := #[]) (by simp) ?_
   refine (defs_any W).mono ?_
   rintro e w' ⟨G, rfl, hT, hb⟩
   exact ⟨_, rfl, _, rfl, hC.trans (hb.mono hC.size), RG.below _ hb, G, _, rfl, hT⟩
  ·have e1 : a1.eval (.tmp 1) = .pointer (some ⟨R1, 0, none⟩) := (hK.old 1 (by kernel_rfl)).trans rfl
   have c1 := (hC.cell (p := ⟨R1, 1, none⟩) hR1).trans (cell_of_row w1 R1 1 _ _ (0, 0) HRB.out)
   have c0 := (hC.cell (p := ⟨R1, 0, none⟩) hR1).trans (cell_of_row w1 R1 0 _ _ (0, 0) HRB.out)
   simp only [Act.eval, Array.getD_eq_getD_getElem?] at e1
   exact ob_value (v := .pointer (some ⟨R1, 1, none⟩)) (w' := W) (by simp [execOp, go_sem, e1]) ⟨_, rfl, hC, RG.refl _ _, rfl⟩
  ·have e1 : a1.eval (.tmp 7) = .pointer (some ⟨R1, 1, none⟩) := hK.get 1 7 (by kernel_rfl) rfl rfl rfl
   have c1 := (hC.cell (p := ⟨R1, 1, none⟩) hR1).trans (cell_of_row w1 R1 1 _ _ (0, 0) HRB.out)
   simp only [Act.eval, Array.getD_eq_getD_getElem?] at e1
   exact ob_value (v := .int .i64 p) (w' := W) (by simp [execOp, go_sem, e1, c1]) ⟨_, rfl, hC, RG.refl _ _, rfl⟩
  ·obtain ⟨G, B, e1, hT⟩ : TGR R1 w1.heap.size PP SS RR NN p DD 0 W x (a1.eval (.tmp 6)) := hK.get 0 6 (by kernel_rfl) rfl rfl rfl
   have e2 : a1.eval (.tmp 8) = .int .i64 p := hK.get 2 8 (by kernel_rfl) rfl rfl rfl
   simp only [Act.eval, Array.getD_eq_getD_getElem?] at e1 e2
   refine ob_call rfl Tryz.func102 (by kernel_rfl) (by kernel_rfl) (vals := #[.slice (some ⟨G, 0, none⟩) 6 6, .int .i64 p, .func (.func 104) #[] #[]]) (by simp [e1, e2, Act.eval]) ?_
   refine (HRow B G W hT).out.mono ?_
   rintro e w' ⟨rfl, hb⟩
   exact ⟨_, rfl, _, rfl, hC.trans (hb.mono hC.size), RG.below _ hb, B, rfl⟩
  ·exact ob_move rfl ⟨_, rfl, hC, RG.refl _ _, hK.get 3 9 (by kernel_rfl) rfl rfl rfl⟩
  ·obtain ⟨B, e1⟩ : TGR R1 w1.heap.size PP SS RR NN p DD 4 W x (a1.eval (.tmp 5)) := hK.get 4 5 (by kernel_rfl) rfl rfl rfl
   simp only [Act.eval, Array.getD_eq_getD_getElem?] at e1
   exact ob_value (v := .agg #[.int .i64 PP, .int .i64 SS, .int .i64 RR, .slice (aD B p) NN NN]) (w' := W) (by simp [execOp, go_sem, e1]) ⟨_, rfl, hC, RG.refl _ _, B, rfl⟩
  ·obtain ⟨B, e1⟩ : TGR R1 w1.heap.size PP SS RR NN p DD 4 W x (a1.eval (.tmp 5)) := hK.get 4 5 (by kernel_rfl) rfl rfl rfl
   simp only [Act.eval, Array.getD_eq_getD_getElem?] at e1
   exact ob_value (v := .bool DD) (w' := W) (by simp [execOp, go_sem, e1]) ⟨_, rfl, hC, RG.refl _ _, rfl⟩
  ·exact ob_value (v := .pointer (some ⟨W.heap.size, 0, none⟩)) (w' := W.alloc zeroO) (by unfold zeroO; simp [execOp, go_sem]) ⟨_, rfl, hC.alloc hC.size _, RG.below _ ((Below.refl _ _).alloc (Nat.le_refl _) _), rfl, W.heap.size, rfl, hC.size, .inl (heap_alloc_new W _)⟩
  ·obtain ⟨e1, k, rfl, hlo, hk⟩ : TGR R1 w1.heap.size PP SS RR NN p DD 7 W x (a1.eval (.tmp 3)) := hK.get 7 3 (by kernel_rfl) rfl rfl rfl
   obtain ⟨B, e2⟩ : TGR R1 w1.heap.size PP SS RR NN p DD 5 W _ (a1.eval (.tmp 10)) := hK.get 5 10 (by kernel_rfl) rfl rfl rfl
   have hfin : ∀ w', w'.heap[k]? = some (.cells #[.int .i64 PP, .int .i64 SS, .int .i64 RR, .slice (aD B p) NN NN] 81 (0, 0)) → Out k (k + 1) W w' → ∃ v, a1.put none undef = a1.put none v ∧ Below w1.heap.size w1 w' ∧ RG (ansO PP SS RR NN p) W w' ∧ TGR R1 w1.heap.size PP SS RR NN p DD 8 w' (if (8 : Nat) = 7 then v else .pointer (some ⟨k, 0, none⟩)) v := fun w' hg ho => by
    refine ⟨undef, rfl, ho.below hC hlo hC.size, ⟨ho.size, fun j hj => ?_⟩, k, rfl, hlo, B, hg⟩
    by_cases hjk : j = k
    ·subst hjk
     exact .inr ⟨hk, B, hg⟩
    ·exact .inl (ho.block j hj (by omega))
   rcases hk with hk | ⟨B', hk⟩
   ·exact ob_put_row 81 (.tmp 3) (.tmp 10) rfl k e1 _ e2 _ rfl 81 _ _ hk (by kernel_rfl) (by kernel_rfl) (by kernel_rfl) (by kernel_rfl) hfin
   ·exact ob_put_row 81 (.tmp 3) (.tmp 10) rfl k e1 _ e2 _ rfl 81 _ _ hk (by kernel_rfl) (by kernel_rfl) (by kernel_rfl) (by kernel_rfl) hfin
  ·exact ob_value (BigFrame.run_assign _ rfl W) ⟨_, rfl, hC, RG.refl _ _, hK.get 6 11 (by kernel_rfl) rfl rfl rfl⟩
 ·intro vs W hC hT
  obtain ⟨e7, k, e7', hlo, -⟩ : TGR R1 w1.heap.size PP SS RR NN p DD 7 W (vs 7) (vs 7) := hT 7 (by decide)
  obtain ⟨k', e8, -, B, hk⟩ : TGR R1 w1.heap.size PP SS RR NN p DD 8 W (vs 7) (vs 8) := hT 8 (by decide)
  have e9 : vs 9 = .bool DD := hT 9 (by decide)
  obtain rfl : k = k' := by
   have := e7'.symm.trans e8
   simpa using this
  simp only [fillL, if_true, Act.put, List.setIfInBounds_toArray, List.set_cons_zero, List.set_cons_succ, e7', e9]
  unfold ansO at hk
  have HC := Lib.hid hC
  have HK := Lib.hid hk
  have hlt : R1 < W.heap.size := Nat.lt_of_lt_of_le hR1 hC.size
  have HR2 := Lib.hid ((hC.block R1 hR1).trans HRB.out)
  clear hC hT e7 e7' e8 e9 hk
  have l0 := (cell_of_row W R1 0 _ _ (0, 0) HR2.out)
  rcases DD with _ | _
  ·have hres : RES = false := by rw [HB.out]; rfl
   go_wp2_with fail
   go_ret
   exact ⟨by rw [hres]; rfl, HL1.out.below.trans (HC.out.mono HL1.out.below.size)⟩
  go_wp2_with (refine wpList_load_one (by kernel_rfl) 2 (.tmp 14) rfl (R1) 0 rfl 144 #[.int .i64 s, .int .i64 p, .string dt] (0, 0) HR2.out (.int .i64 s) rfl _ Tryz.underlying2 rfl (by kernel_rfl) ?_)
  refine (from0_any s 255 _).mono ?_
  rintro e w' ⟨rfl, rfl⟩
  rcases hi : inB 0 255 s with _ | _
  ·have hres : RES = false := by rw [HB.out, hi]; rfl
   go_wp2_with fail
   go_ret
   exact ⟨by rw [hres]; rfl, HL1.out.below.trans (HC.out.mono HL1.out.below.size)⟩
  have hres : RES = ((dt.size : Int) == SS) := by rw [HB.out, hi]; rfl
  clear l0 hi
  go_wp2_with (first
   | (refine wpList_load_one (by kernel_rfl) 9 (.tmp 19) rfl (R1) 2 rfl 144 #[.int .i64 s, .int .i64 p, .string dt] (0, 0) HR2.out (.string dt) rfl _ Tryz.underlying9 rfl (by kernel_rfl) ?_)
   | (refine wpList_load_one (by kernel_rfl) 2 (.tmp 22) rfl (k) 1 rfl 81 #[.int .i64 PP, .int .i64 SS, .int .i64 RR, .slice (aD B p) NN NN] (0, 0) HK.out (.int .i64 SS) rfl _ Tryz.underlying2 rfl (by kernel_rfl) ?_))
  go_ret
  exact ⟨by rw [hres]; rfl, HL1.out.below.trans (HC.out.mono HL1.out.below.size)⟩
end Go.Proofs.YtioldepgoodipaaGreat
namespace Go.Proofs.YtioldepgoodipaaGreat
open Go.RowKit
set_option linter.unusedVariables false

def stB (ad st lf : Int) : Bool :=
 if st = 1 then inB 0 251 ad && inB 1 250 lf else if st = 2 then inB 0 251 ad && decide (lf = 0) else if st = 3 then decide (ad = 254) && decide (lf = 0) else false
theorem stB_eq (c : Cl) : stateB c = stB c.ad c.st c.lf := rfl
set_option maxRecDepth 100000 in
set_option maxHeartbeats 2000000 in
theorem stateRight_any (n : Nm) (ad st lf : Int) (v : Value) (w : World) :
  Calls Tryz.prog 187 #[clV n ad st lf v] w fun e w' => e = .returned (.bool (stB ad st lf)) ∧ Below w.heap.size w w' := by
 obtain ⟨n0, n1, n2, n3, n4, n5, n6, n7⟩ := n
 unfold clV
 dsimp only
 obtain ⟨R, hR⟩ : ∃ R, stB ad st lf = R := ⟨_, rfl⟩
 have HS := Lib.hid (show (if st = 1 then inB 0 251 ad && inB 1 250 lf else if st = 2 then inB 0 251 ad && decide (lf = 0) else if st = 3 then decide (ad = 254) && decide (lf = 0) else false) = R from hR)
 rw [hR]
 clear hR
 have HA := fun W => Lib.hid (from0_any ad 251 W)
 by_cases s1 : st = 1
 ·subst s1
  rcases ha : inB 0 251 ad
  ·have HO := Lib.hid (show R = false by rw [← HS.out, if_pos rfl, ha]; rfl)
   rw [ha] at HA
   clear HS ha
   go_enter Tryz.func187, Tryz.ntmps187
   go_wp2_with (go_at_call 131; refine (HA _).out.mono ?_; rintro e w' ⟨rfl, rfl⟩)
   go_ret
   exact ⟨by rw [HO.out]; rfl, (Below.refl _ _).alloc (Nat.le_refl _) _⟩
  rw [ha] at HA
  have HL := HS.out
  rw [if_pos rfl, ha, Bool.true_and] at HL
  clear HS ha
  by_cases h1 : 1 ≤ lf
  ·have hd : decide (1 ≤ lf) = true := decide_eq_true h1
   have HO := Lib.hid (show R = decide (lf ≤ 250) by rw [← HL]; simp [inB, hd])
   clear HL h1
   go_enter Tryz.func187, Tryz.ntmps187
   go_wp2_with (go_at_call 131; refine (HA _).out.mono ?_; rintro e w' ⟨rfl, rfl⟩)
   go_ret
   exact ⟨by rw [HO.out]; rfl, (Below.refl _ _).alloc (Nat.le_refl _) _⟩
  ·have hd : decide (1 ≤ lf) = false := decide_eq_false h1
   have HO := Lib.hid (show R = false by rw [← HL]; simp [inB, hd])
   clear HL h1
   go_enter Tryz.func187, Tryz.ntmps187
   go_wp2_with (go_at_call 131; refine (HA _).out.mono ?_; rintro e w' ⟨rfl, rfl⟩)
   go_ret
   exact ⟨by rw [HO.out]; rfl, (Below.refl _ _).alloc (Nat.le_refl _) _⟩
 have hs1 : (st == 1) = false := by simpa using s1
 by_cases s2 : st = 2
 ·subst s2
  rcases ha : inB 0 251 ad
  ·have HO := Lib.hid (show R = false by rw [← HS.out, if_neg s1, if_pos rfl, ha]; rfl)
   rw [ha] at HA
   clear HS ha s1
   go_enter Tryz.func187, Tryz.ntmps187
   go_wp2_with (go_at_call 131; refine (HA _).out.mono ?_; rintro e w' ⟨rfl, rfl⟩)
   go_ret
   exact ⟨by rw [HO.out]; rfl, (Below.refl _ _).alloc (Nat.le_refl _) _⟩
  rw [ha] at HA
  have HL := HS.out
  rw [if_neg s1, if_pos rfl, ha, Bool.true_and] at HL
  clear HS ha s1
  by_cases h1 : 0 ≤ lf
  ·have hd : decide (0 ≤ lf) = true := decide_eq_true h1
   have HO := Lib.hid (show R = decide (lf ≤ 0) by rw [← HL]; exact decide_eq_decide.2 (by omega))
   clear HL h1
   go_enter Tryz.func187, Tryz.ntmps187
   go_wp2_with (go_at_call 131; refine (HA _).out.mono ?_; rintro e w' ⟨rfl, rfl⟩)
   go_ret
   exact ⟨by rw [HO.out]; rfl, (Below.refl _ _).alloc (Nat.le_refl _) _⟩
  ·have hd : decide (0 ≤ lf) = false := decide_eq_false h1
   have HO := Lib.hid (show R = false by rw [← HL]; exact decide_eq_false (by omega))
   clear HL h1
   go_enter Tryz.func187, Tryz.ntmps187
   go_wp2_with (go_at_call 131; refine (HA _).out.mono ?_; rintro e w' ⟨rfl, rfl⟩)
   go_ret
   exact ⟨by rw [HO.out]; rfl, (Below.refl _ _).alloc (Nat.le_refl _) _⟩
 have hs2 : (st == 2) = false := by simpa using s2
 by_cases s3 : st = 3
 ·subst s3
  by_cases ha : ad = 254
  ·subst ha
   have HO := Lib.hid (show R = (lf == 0) by rw [← HS.out, if_neg s1, if_neg s2, if_pos rfl]; simp; exact (Bool.beq_eq_decide_eq lf 0).symm)
   clear HS s1 s2
   go_enter Tryz.func187, Tryz.ntmps187
   go_wp2
   go_ret
   exact ⟨by rw [HO.out]; rfl, (Below.refl _ _).alloc (Nat.le_refl _) _⟩
  ·have hd : (ad == 254) = false := by simpa using ha
   have HO := Lib.hid (show R = false by rw [← HS.out, if_neg s1, if_neg s2, if_pos rfl]; simp [ha])
   clear HS s1 s2 ha
   go_enter Tryz.func187, Tryz.ntmps187
   go_wp2
   go_ret
   exact ⟨by rw [HO.out]; rfl, (Below.refl _ _).alloc (Nat.le_refl _) _⟩
 ·have hs3 : (st == 3) = false := by simpa using s3
  have HO := Lib.hid (show R = false by rw [← HS.out, if_neg s1, if_neg s2, if_neg s3])
  clear HS s1 s2 s3
  go_enter Tryz.func187, Tryz.ntmps187
  go_wp2
  go_ret
  exact ⟨by rw [HO.out]; rfl, (Below.refl _ _).alloc (Nat.le_refl _) _⟩
set_option maxRecDepth 100000 in
set_option maxHeartbeats 2000000 in
theorem takenRight_any (a : Option Addr) (cap : Nat) (l : List Int) (w : World) (h : NumsIn w a l) (hlen : l.length ≤ 1048576) :
  Calls Tryz.prog 188 #[.slice a l.length cap] w fun e w' => e = .returned (.bool (riseB (-1) l)) ∧ w = w' := by
 obtain ⟨R, hR⟩ : ∃ R, riseB (-1) l = R := ⟨_, rfl⟩
 have HR := Lib.hid (show riseB (pvI l 0) (l.drop 0) = R from hR)
 rw [hR]
 clear hR
 obtain ⟨N, hN⟩ : ∃ N, l.length = N := ⟨_, rfl⟩
 have HN := Lib.hid hN
 rw [hN] at hlen ⊢
 clear hN
 have HI := Lib.hid h
 clear h
 go_enter Tryz.func188, Tryz.ntmps188
 go_wp2_with fail
 go_loopw [3, 8] (fun p i wr => ∃ (k : Nat) (m : Int), i = .int .i64 (k : Int) ∧ p = .int .i64 m ∧ m = pvI l k + 1 ∧ 0 ≤ m ∧ k ≤ N ∧ riseB (pvI l k) (l.drop k) = R ∧ w = wr) (fun _ i _ => N - (intOf i).toNat)
 case atStart => exact ⟨0, 0, rfl, rfl, rfl, by omega, by omega, HR.out, rfl⟩
 case round =>
  obtain ⟨k, m, rfl, rfl, hm, hm0, hk, hr, rfl⟩ := hrel
  have HM := Lib.hid hm
  have HK := Lib.hid hr
  clear hm hr HR
  by_cases hkn : k < N
  ·have hkl : k < l.length := by have := HN.out; omega
   obtain ⟨b, o, rfl, hlt, hc⟩ := HI.out.at (by omega)
   have d0 := hc k _ (numAt_some hkl)
   have hi1 : (0 : Int) ≤ (k : Int) := by omega
   have hi2 : (k : Int) < (N : Int) := by omega
   have HT := Lib.hid (riseB_step hkl)
   have hx : pvI l (k + 1) = numAt l k := by simp [pvI]
   obtain ⟨x, hxx⟩ : ∃ x, numAt l k = x := ⟨_, rfl⟩
   rw [hxx] at d0 hx
   have HX := Lib.hid hx
   have HXX := Lib.hid hxx
   clear hc hx hxx
   by_cases h1 : x < m
   ·have hd : decide (x < m) = true := decide_eq_true h1
    have HO := Lib.hid (show R = false by
     rw [← HK.out, HT.out, HXX.out]
     simp only [Bool.and_eq_false_iff]
     exact .inr (.inl (decide_eq_false (by have := HM.out; omega))))
    clear h1
    go_wp2_with fail
    go_ret
    exact ⟨by rw [HO.out]; rfl, rfl⟩
   have hd : decide (x < m) = false := decide_eq_false h1
   by_cases h2 : 251 < x
   ·have hd2 : decide (251 < x) = true := decide_eq_true h2
    have HO := Lib.hid (show R = false by
     rw [← HK.out, HT.out, HXX.out, inB_no (by omega)]
     rfl)
    clear h1 h2
    go_wp2_with fail
    go_ret
    exact ⟨by rw [HO.out]; rfl, rfl⟩
   have hd2 : decide (251 < x) = false := decide_eq_false h2
   have hw : IntKind.i64.wrap (x + 1) = x + 1 := IntWalk.i64_in _ (by omega)
   have HN2 := Lib.hid (show riseB (pvI l (k + 1)) (l.drop (k + 1)) = R by
    rw [← HK.out, HT.out, HXX.out, inB_yes (by omega) (by omega), decide_eq_true (by have := HM.out; omega)]
    rfl)
   go_wp2_with fail
   go_roundw
   case rel => exact ⟨k + 1, x + 1, by go_num, rfl, by rw [HX.out], by omega, by omega, HN2.out, by first | rfl | trivial⟩
   case measure => simp [intOf]; omega
  ·have hge : N ≤ k := by omega
   have HO := Lib.hid (show R = true by
    rw [← HK.out, List.drop_eq_nil_of_le (by have := HN.out; omega)]
    rfl)
   go_wp2_with fail
   go_ret
   exact ⟨by rw [HO.out]; rfl, rfl⟩
set_option maxRecDepth 100000 in
set_option maxHeartbeats 2000000 in
theorem implClaimRight_any (n : Nm) (ad st lf : Int) (a : Option Addr) (cap : Nat) (l : List Int) (w : World) (h : NumsIn w a l) (hlen : l.length ≤ 1048576) :
  Calls Tryz.prog 127 #[clV n ad st lf (.slice a l.length cap)] w fun e w' => e = .returned (.bool (clB ⟨n, ad, st, lf, l⟩)) ∧ Below w.heap.size w w' := by
 have HN := fun W => Lib.hid (implNameOk_any n W)
 have HS := fun W => Lib.hid (stateRight_any n ad st lf (.slice a l.length cap) W)
 have HT := fun W hW => Lib.hid (takenRight_any a cap l W hW hlen)
 have HI := Lib.hid h
 obtain ⟨R, hR⟩ : ∃ R, clB ⟨n, ad, st, lf, l⟩ = R := ⟨_, rfl⟩
 have HR := Lib.hid (show (okB n && (stB ad st lf && riseB (-1) l)) = R by
  rw [← hR]
  unfold clB
  rw [stB_eq]
  dsimp only
  rcases hq : riseB (-1) l
  ·simp
  ·have := riseB_len hq (by omega)
   rw [decide_eq_true (show l.length ≤ 252 by omega)]
   cases okB n <;> cases stB ad st lf <;> rfl)
 rw [hR]
 clear hR h
 generalize okB n = v0 at *
 generalize stB ad st lf = v1 at *
 generalize riseB (-1) l = v2 at *
 generalize l.length = N at *
 obtain ⟨n0, n1, n2, n3, n4, n5, n6, n7⟩ := n
 unfold clV at *
 unfold nmV at *
 dsimp only at *
 have b0 : Below w.heap.size w (w.alloc (.cells #[.int .i64 n0, .int .i64 n1, .int .i64 n2, .int .i64 n3, .int .i64 n4, .int .i64 n5, .int .i64 n6, .bool n7, .int .i64 ad, .int .i64 st, .int .i64 lf, .slice a N cap] 40)) := (Below.refl _ _).alloc (Nat.le_refl _) _
 have HB0 := Lib.hid b0
 have HR0 := Lib.hid (heap_alloc_new w (.cells #[.int .i64 n0, .int .i64 n1, .int .i64 n2, .int .i64 n3, .int .i64 n4, .int .i64 n5, .int .i64 n6, .bool n7, .int .i64 ad, .int .i64 st, .int .i64 lf, .slice a N cap] 40))
 clear b0
 go_enter Tryz.func127, Tryz.ntmps127
 go_wp2_with fail
 refine (HN _).out.mono ?_
 rintro e w1 ⟨rfl, h1⟩
 have HB1 := Lib.hid (HB0.out.trans (h1.mono (by simp)))
 have HR1 := Lib.hid ((h1.block _ (by simp)).trans HR0.out)
 clear h1 HR0 HB0
 cases v0
 ·have HO := Lib.hid (show R = false from HR.out.symm.trans rfl)
  go_wp2_with fail
  go_ret
  exact ⟨by rw [HO.out]; rfl, HB1.out⟩
 have m0 := cell_of_row w1 w.heap.size 0 _ _ (0, 0) HR1.out
 have m1 := cell_of_row w1 w.heap.size 1 _ _ (0, 0) HR1.out
 have m2 := cell_of_row w1 w.heap.size 2 _ _ (0, 0) HR1.out
 have m3 := cell_of_row w1 w.heap.size 3 _ _ (0, 0) HR1.out
 have m4 := cell_of_row w1 w.heap.size 4 _ _ (0, 0) HR1.out
 have m5 := cell_of_row w1 w.heap.size 5 _ _ (0, 0) HR1.out
 have m6 := cell_of_row w1 w.heap.size 6 _ _ (0, 0) HR1.out
 have m7 := cell_of_row w1 w.heap.size 7 _ _ (0, 0) HR1.out
 have m8 := cell_of_row w1 w.heap.size 8 _ _ (0, 0) HR1.out
 have m9 := cell_of_row w1 w.heap.size 9 _ _ (0, 0) HR1.out
 have m10 := cell_of_row w1 w.heap.size 10 _ _ (0, 0) HR1.out
 have m11 := cell_of_row w1 w.heap.size 11 _ _ (0, 0) HR1.out
 simp only [List.getElem?_toArray, List.getElem?_cons_zero, List.getElem?_cons_succ] at m0 m1 m2 m3 m4 m5 m6 m7 m8 m9 m10 m11
 go_wp2_with fail
 refine (HS _).out.mono ?_
 rintro e w2 ⟨rfl, h2⟩
 have HB2 := Lib.hid (HB1.out.trans (h2.mono (HB1.out.size)))
 have HR2 := Lib.hid ((h2.block _ (heap_lt HR1.out)).trans HR1.out)
 clear h2 HR1 HB1 m0 m1 m2 m3 m4 m5 m6 m7 m8 m9 m10 m11
 cases v1
 ·have HO := Lib.hid (show R = false from HR.out.symm.trans rfl)
  go_wp2_with fail
  go_ret
  exact ⟨by rw [HO.out]; rfl, HB2.out⟩
 have m11 := cell_of_row w2 w.heap.size 11 _ _ (0, 0) HR2.out
 simp only [List.getElem?_toArray, List.getElem?_cons_zero, List.getElem?_cons_succ] at m11
 have HO := Lib.hid (show R = v2 from HR.out.symm.trans (by simp))
 go_wp2_with fail
 refine (HT _ (HI.out.kept HB2.out)).out.mono ?_
 rintro e w3 ⟨rfl, rfl⟩
 go_wp2_with fail
 go_ret
 exact ⟨by rw [HO.out]; rfl, HB2.out⟩
end Go.Proofs.YtioldepgoodipaaGreat
namespace Go.Proofs.YtioldepgoodipaaGreat
open Go.RowKit
set_option linter.unusedVariables false

def qRightB (l : List (Int × ByteArray)) : Bool := decide (l.length ≤ 16) && allB l
theorem qRightB_long {l : List (Int × ByteArray)} (h : 16 < l.length) : qRightB l = false := by simp [qRightB]; omega
theorem qRightB_short {l : List (Int × ByteArray)} (h : l.length ≤ 16) : qRightB l = allB l := by simp [qRightB, h]
theorem qRightB_of {l : List (Int × ByteArray)} (h : qRightB l = true) : l.length ≤ 16 ∧ allB l = true := by simpa [qRightB] using h

set_option maxHeartbeats 1000000 in
theorem implQueueRight_any (a : Option Addr) (cap : Nat) (l : List (Int × ByteArray)) (w : World) (h : CansIn w a l) (hok : CansOk l) (hlen : l.length ≤ 1048576) :
  Calls Tryz.prog 128 #[.agg #[.slice a l.length cap]] w fun e w' => e = .returned (.bool (qRightB l)) ∧ Below w.heap.size w w' := by
 have hb0 := fun o : Obj => (Below.refl w.heap.size w).alloc (Nat.le_refl _) o
 have HB := Lib.hid hb0
 have HC := Lib.hid h
 clear hb0 h
 by_cases h16 : l.length ≤ 16
 ·have hd : decide ((l.length : Int) ≤ 16) = true := decide_eq_true (by omega)
  have HQ := Lib.hid (qRightB_short h16)
  have HA := fun W hW => Lib.hid (implAllRight_any a cap l W hW hok hlen)
  clear h16
  go_enter Tryz.func128, Tryz.ntmps128
  go_wp2_with fail
  refine (HA _ (HC.out.kept (HB.out _))).out.mono ?_
  rintro e w1 ⟨rfl, h1⟩
  go_wp2
  go_ret
  exact ⟨by rw [HQ.out]; rfl, (HB.out _).trans (h1.mono (by simp))⟩
 ·have hd : decide ((l.length : Int) ≤ 16) = false := decide_eq_false (by omega)
  have HQ := Lib.hid (qRightB_long (l := l) (by omega))
  clear h16
  go_enter Tryz.func128, Tryz.ntmps128
  go_wp2_with fail
  go_ret
  exact ⟨by rw [HQ.out]; rfl, HB.out _⟩
set_option maxHeartbeats 1000000 in
theorem specQueueRight_any (a : Option Addr) (cap : Nat) (l : List (Int × ByteArray)) (w : World) (h : CansIn w a l) (hok : CansOk l) (hlen : l.length ≤ 1048576) :
  Calls Tryz.prog 79 #[.agg #[.slice a l.length cap]] w fun e w' => e = .returned (.bool (qRightB l)) ∧ Below w.heap.size w w' := by
 have hb0 := fun o : Obj => (Below.refl w.heap.size w).alloc (Nat.le_refl _) o
 have HB := Lib.hid hb0
 have HC := Lib.hid h
 clear hb0 h
 by_cases h16 : l.length ≤ 16
 ·have hd : decide ((l.length : Int) ≤ 16) = true := decide_eq_true (by omega)
  have HQ := Lib.hid (qRightB_short h16)
  have HA := fun W hW => Lib.hid (specAll_any a cap l W hW hok hlen)
  clear h16
  go_enter Tryz.func79, Tryz.ntmps79
  go_wp2_with fail
  refine (HA _ (HC.out.kept (HB.out _))).out.mono ?_
  rintro e w1 ⟨rfl, h1⟩
  go_wp2
  go_ret
  exact ⟨by rw [HQ.out]; rfl, (HB.out _).trans (h1.mono (by simp))⟩
 ·have hd : decide ((l.length : Int) ≤ 16) = false := decide_eq_false (by omega)
  have HQ := Lib.hid (qRightB_long (l := l) (by omega))
  clear h16
  go_enter Tryz.func79, Tryz.ntmps79
  go_wp2_with fail
  go_ret
  exact ⟨by rw [HQ.out]; rfl, HB.out _⟩

set_option maxHeartbeats 1000000 in
theorem waitingIn_any (v : Value) (hv : ∃ a n c, v = .slice a n c) (w : World) :
  Calls Tryz.prog 140 #[.agg #[v]] w fun e w' => e = .returned (.agg #[v]) ∧ Below w.heap.size w w' := by
 obtain ⟨a, n, c, rfl⟩ := hv
 go_enter Tryz.func140, Tryz.ntmps140
 go_wp2
 exact bodyPost_ret (v := .agg #[.slice a n c]) (by simp [results, Tryz.results140, go_sem]) rfl ⟨rfl, ((Below.refl _ _).alloc (Nat.le_refl _) _).alloc (by simp) _⟩
end Go.Proofs.YtioldepgoodipaaGreat
namespace Go.Proofs.YtioldepgoodipaaGreat
open Go.RowKit
set_option linter.unusedVariables false

def lo4 (t : ByteArray) : Int := byteAt t 0 + 256 * byteAt t 1 + 65536 * byteAt t 2 + 16777216 * byteAt t 3
def readNm (t : ByteArray) : Nm := ⟨lo4 t % 2097152, lo4 t / 2097152, byteAt t 4, byteAt t 5, byteAt t 6 / 2, byteAt t 7 % 16, byteAt t 7 / 16 % 8, decide (128 ≤ byteAt t 7)⟩
def nmOutV (n : Nm) (c : Int) : Value := .agg #[.int .i64 n.u, .int .i64 n.m, .int .i64 n.i, .int .i64 n.f, .int .i64 n.c, .int .i64 n.s, .int .i64 n.y, .bool n.a, .int .i64 c]
def nm0 : Nm := ⟨0, 0, 0, 0, 0, 0, 0, false⟩
def fromB (t : ByteArray) : Bool := nmBytes (readNm t) == t.toList
def nameFromV (t : ByteArray) : Value := if 8000 < t.size then nmOutV nm0 2 else if t.size ≠ 8 then nmOutV nm0 3 else if fromB t = true then nmOutV (readNm t) 0 else nmOutV nm0 3
end Go.Proofs.YtioldepgoodipaaGreat
namespace Go.Proofs.YtioldepgoodipaaGreat
open Go.RowKit
set_option linter.unusedVariables false

end Go.Proofs.YtioldepgoodipaaGreat
namespace Go.Proofs.YtioldepgoodipaaGreat
open Go.RowKit Go.Joins
set_option linter.unusedVariables false

set_option maxRecDepth 100000 in
set_option maxHeartbeats 2000000 in
theorem clone_any (a : Option Addr) (cap : Nat) (l : List Int) (w : World) (h : NumsIn w a l) (hlen : l.length ≤ 1048576) :
  Calls Tryz.prog 147 #[.slice a l.length cap] w fun e w' => ∃ v, e = .returned v ∧ w'.ownsRow w.heap.size 2 1 v l.length (ncells l) ∧ Below w.heap.size w w' := by
 obtain ⟨i0, hi, hz0, hz1, hz2⟩ := info_parts NumsTo.info
 obtain ⟨N, hN⟩ : ∃ N, l.length = N := ⟨_, rfl⟩
 have HNl := Lib.hid hN
 rw [hN] at hlen ⊢
 clear hN
 have HI := Lib.hid h
 clear h
 rcases a with _ | ⟨b, o, sp⟩
 ·have hl : l = [] := by
   rcases HI.out with h | ⟨b, o', h', _⟩
   ·exact h
   ·cases h'
  obtain rfl : N = 0 := by rw [← HNl.out, hl]; rfl
  subst hl
  clear HI HNl
  have hq := fun W : World => Lib.run_eql_slice_nil (P := Tryz.prog) W 24 2 none 0 cap 0 0 Tryz.underlying24
  go_enter Tryz.func147, Tryz.ntmps147
  go_wp2
  go_ret
  exact ⟨_, rfl, World.ownsRow_nil _ _ _ _, Below.refl _ _⟩
 have HO0 := Lib.hid (show (w.alloc (.cells #[] 2)).ownsRow w.heap.size 2 1 (.slice (some ⟨w.heap.size, 0, none⟩) 0 0) 0 [] from World.ownsRow_lit w #[] 0 (Nat.le_refl _) (by unfold maxLen; omega) rfl)
 have HB0 := Lib.hid ((Below.refl w.heap.size w).alloc (Nat.le_refl _) (.cells #[] 2))
 have hq := fun W : World => Lib.run_eql_slice_nil (P := Tryz.prog) W 24 2 (some ⟨b, o, sp⟩) N cap 0 0 Tryz.underlying24
 go_enter Tryz.func147, Tryz.ntmps147
 go_wp2_with (at_builtin; refine wpList_append_nums rfl (.tmp 5) (.tmp 6) 24 rfl w.heap.size 2 i0 (.int .i64 0) 8 Tryz.underlying24 hi hz0 hz1 hz2 rfl _ 0 [] rfl HO0.out (some ⟨b, o, sp⟩) cap l N HNl.out (by rfl) (HI.out.kept HB0.out) (by unfold maxLen; omega) (by omega) (by simp) ?_; intro v2 w2 hown2 hg2; have HO2 := Lib.hid (show w2.ownsRow w.heap.size 2 1 v2 N (ncells l) from (by simpa using hown2)); have b2 : Below w.heap.size w w2 := HB0.out.grown hg2 (by simp) (fun q hq => (World.ownsRow.lt HO0.out q hq).1); clear hown2 hg2)
 go_ret
 exact ⟨_, rfl, HO2.out, b2⟩
end Go.Proofs.YtioldepgoodipaaGreat
namespace Go.Proofs.YtioldepgoodipaaGreat
open Go.RowKit
set_option linter.unusedVariables false

section
variable {P : Program} {ops : Array Oper} {rest : List Oper} {o : Oper} {a : Act} {w : World} {Q : Exit → Act → World → Prop}
end
end Go.Proofs.YtioldepgoodipaaGreat
namespace Go.Proofs.YtioldepgoodipaaGreat
open Go.RowKit Go.Joins
set_option linter.unusedVariables false

section
variable {P : Program} {ops : Array Oper} {rest : List Oper} {o : Oper} {a : Act} {w : World} {Q : Exit → Act → World → Prop}
theorem step_copy_h {K : Act → World → Prop} {E : Prop} (hgd : o.guard = none) (d s : Operand) (dT sT : TypeId) (ho : o.op = .call { callee := .builtin .copy, args := #[d, s], argTypes := #[dT, sT] })
  (elem : TypeId) (hu : P.underlying dT = some (.slice elem)) (hsz : (P.info? elem).map (·.size) = some 1) (dp sp : Option Addr) (dLen dCap sLen sCap : Nat) (hd : a.eval d = .slice dp dLen dCap) (hs : a.eval s = .slice sp sLen sCap)
  (g off : Nat) (cur : List Value) (t : TypeId) (hg : w.heap[g]? = some (.cells cur.toArray t (0, 0))) (cs : List Value) (hn : cs.length = Nat.min sLen dLen)
  (hpos : 0 < cs.length → dp = some ⟨g, off, none⟩ ∧ ∃ ad, sp = some ad ∧ ∀ j v, cs[j]? = some v → w.cell? (ad.add j) = some v) (hfit : off + cs.length ≤ cur.length) (h1 : ∀ v ∈ cs, v.oneCell' = true)
  (h : ∀ w', w'.heap[g]? = some (.cells (splice cur off cs).toArray t (0, 0)) → Out g (g + 1) w w' → K (a.put o.dst (goInt cs.length)) w') :
  if Region.wanted o (yielded ops a.tmps) = true then Oper.wp P o a w K Q else E := by
 have hw : Region.wanted o (yielded ops a.tmps) = true := by simp [Region.wanted, hgd]
 rw [if_pos hw]
 by_cases h0 : cs.length = 0
 ·obtain rfl : cs = [] := List.eq_nil_of_length_eq_zero h0
  have hrun := run_copy_none (P := P) w dT sT o.type elem dp sp dLen dCap sLen sCap hu hsz (by simpa using hn.symm)
  unfold Oper.wp
  simp [execOp, ho, resolve, invoke, builtin, hd, hs, hrun, Result.andThen]
  exact h w (by simpa [splice] using hg) (Out.refl _ _ _)
 ·obtain ⟨rfl, ad, rfl, hsrc⟩ := hpos (by omega)
  have hrun := run_copy_row (P := P) w dT sT o.type elem g off dLen dCap ad sLen sCap cur.toArray t cs hu hsz hg hn hsrc (by simpa using hfit) h1
  unfold Oper.wp
  simp [execOp, ho, resolve, invoke, builtin, hd, hs, hrun, Result.andThen]
  exact h _ (by simpa [splice] using setRow_heap w g _ _ t _ hg) (Out.of_setRow w g _)
theorem wpList_copy_h (hgd : o.guard = none) (d s : Operand) (dT sT : TypeId) (ho : o.op = .call { callee := .builtin .copy, args := #[d, s], argTypes := #[dT, sT] })
  (elem : TypeId) (hu : P.underlying dT = some (.slice elem)) (hsz : (P.info? elem).map (·.size) = some 1) (dp sp : Option Addr) (dLen dCap sLen sCap : Nat) (hd : a.eval d = .slice dp dLen dCap) (hs : a.eval s = .slice sp sLen sCap)
  (g off : Nat) (cur : List Value) (t : TypeId) (hg : w.heap[g]? = some (.cells cur.toArray t (0, 0))) (cs : List Value) (hn : cs.length = Nat.min sLen dLen)
  (hpos : 0 < cs.length → dp = some ⟨g, off, none⟩ ∧ ∃ ad, sp = some ad ∧ ∀ j v, cs[j]? = some v → w.cell? (ad.add j) = some v) (hfit : off + cs.length ≤ cur.length) (h1 : ∀ v ∈ cs, v.oneCell' = true)
  (h : ∀ w', w'.heap[g]? = some (.cells (splice cur off cs).toArray t (0, 0)) → Out g (g + 1) w w' → wpList P ops Q rest (a.put o.dst (goInt cs.length)) w') : wpList P ops Q (o :: rest) a w :=
 wpList_plain hgd fun K hK => by
  have hw : Region.wanted o (yielded ops a.tmps) = true := by simp [Region.wanted, hgd]
  have := step_copy_h (E := False) (K := K) (Q := Q) (ops := ops) hgd d s dT sT ho elem hu hsz dp sp dLen dCap sLen sCap hd hs g off cur t hg cs hn hpos hfit h1 fun w' h1 h2 => hK _ _ (h w' h1 h2)
  rwa [if_pos hw] at this
end
end Go.Proofs.YtioldepgoodipaaGreat
namespace Go.Proofs.YtioldepgoodipaaGreat
open Go.RowKit Go.Joins
set_option linter.unusedVariables false

end Go.Proofs.YtioldepgoodipaaGreat
namespace Go.Proofs.YtioldepgoodipaaGreat
open Go.RowKit
set_option linter.unusedVariables false

def freeI (l : List Int) (a : Int) : Int := if 251 < l.length then 254 else nextI l a

end Go.Proofs.YtioldepgoodipaaGreat
namespace Go.Proofs.YtioldepgoodipaaGreat
open Go.RowKit Go.Joins
set_option linter.unusedVariables false

end Go.Proofs.YtioldepgoodipaaGreat
namespace Go.Proofs.YtioldepgoodipaaGreat
open Go.RowKit
set_option linter.unusedVariables false

def takenI (l : List Int) (x : Int) : List Int := if inB 0 251 x = true then takeI l x else l
end Go.Proofs.YtioldepgoodipaaGreat
namespace Go.Proofs.YtioldepgoodipaaGreat
open Go.RowKit
set_option linter.unusedVariables false

end Go.Proofs.YtioldepgoodipaaGreat
namespace Go.Proofs.YtioldepgoodipaaGreat
open Go.RowKit
set_option linter.unusedVariables false

def zeroCl : Cl := ⟨⟨0, 0, 0, 0, 0, 0, 0, false⟩, 0, 0, 0, []⟩
def ClOut (w : World) (c : Cl) (s : Bool) (k : Int) (e : Ending) (w' : World) : Prop :=
 ∃ a cap, e = .returned (clOutV c.n c.ad c.st c.lf (.slice a c.tk.length cap) s k) ∧ NumsNew w.heap.size w'.heap.size w' a c.tk ∧ Below w.heap.size w w'
def tickO (c : Cl) : Cl × Int := if clB c = true then (tickC c, 0) else (zeroCl, 1)
end Go.Proofs.YtioldepgoodipaaGreat
namespace Go.Proofs.YtioldepgoodipaaGreat
open Go.RowKit
set_option linter.unusedVariables false

end Go.Proofs.YtioldepgoodipaaGreat
namespace Go.Proofs.YtioldepgoodipaaGreat
open Go.RowKit
set_option linter.unusedVariables false

set_option maxRecDepth 100000 in
set_option maxHeartbeats 8000000 in
theorem implNameLess_any (a b : Nm) (w : World) :
  Calls Tryz.prog 224 #[nmV a, nmV b] w fun e w' => e = .returned (.bool (nmLessB a b)) ∧ Below w.heap.size w w' := by
 have HA := fun W => Lib.hid (implNameOk_any a W)
 have HB := fun W => Lib.hid (implNameOk_any b W)
 have hb0 : ∀ o o' : Obj, Below w.heap.size w ((w.alloc o).alloc o') := fun o o' => ((Below.refl _ _).alloc (Nat.le_refl _) _).alloc (by simp) _
 have HB0 := Lib.hid hb0
 clear hb0
 obtain ⟨a0, a1, a2, a3, a4, a5, a6, a7⟩ := a
 obtain ⟨b0, b1, b2, b3, b4, b5, b6, b7⟩ := b
 rcases ha : okB ⟨a0, a1, a2, a3, a4, a5, a6, a7⟩
 ·have HO := Lib.hid (show nmLessB ⟨a0, a1, a2, a3, a4, a5, a6, a7⟩ ⟨b0, b1, b2, b3, b4, b5, b6, b7⟩ = false by simp [nmLessB, ha])
  rw [ha] at HA
  clear ha HB
  unfold nmV at *
  go_enter Tryz.func224, Tryz.ntmps224
  go_wp2_with fail
  have bU0 := HB0.out (.cells #[.int .i64 a0, .int .i64 a1, .int .i64 a2, .int .i64 a3, .int .i64 a4, .int .i64 a5, .int .i64 a6, .bool a7] 38) (.cells #[.int .i64 b0, .int .i64 b1, .int .i64 b2, .int .i64 b3, .int .i64 b4, .int .i64 b5, .int .i64 b6, .bool b7] 38)
  have kU : ((((w.alloc (.cells #[.int .i64 a0, .int .i64 a1, .int .i64 a2, .int .i64 a3, .int .i64 a4, .int .i64 a5, .int .i64 a6, .bool a7] 38)).alloc (.cells #[.int .i64 b0, .int .i64 b1, .int .i64 b2, .int .i64 b3, .int .i64 b4, .int .i64 b5, .int .i64 b6, .bool b7] 38)).cell? ⟨w.heap.size, 0, none⟩ = some (.int .i64 a0) ∧ ((w.alloc (.cells #[.int .i64 a0, .int .i64 a1, .int .i64 a2, .int .i64 a3, .int .i64 a4, .int .i64 a5, .int .i64 a6, .bool a7] 38)).alloc (.cells #[.int .i64 b0, .int .i64 b1, .int .i64 b2, .int .i64 b3, .int .i64 b4, .int .i64 b5, .int .i64 b6, .bool b7] 38)).cell? ⟨w.heap.size, 1, none⟩ = some (.int .i64 a1) ∧ ((w.alloc (.cells #[.int .i64 a0, .int .i64 a1, .int .i64 a2, .int .i64 a3, .int .i64 a4, .int .i64 a5, .int .i64 a6, .bool a7] 38)).alloc (.cells #[.int .i64 b0, .int .i64 b1, .int .i64 b2, .int .i64 b3, .int .i64 b4, .int .i64 b5, .int .i64 b6, .bool b7] 38)).cell? ⟨w.heap.size, 2, none⟩ = some (.int .i64 a2) ∧ ((w.alloc (.cells #[.int .i64 a0, .int .i64 a1, .int .i64 a2, .int .i64 a3, .int .i64 a4, .int .i64 a5, .int .i64 a6, .bool a7] 38)).alloc (.cells #[.int .i64 b0, .int .i64 b1, .int .i64 b2, .int .i64 b3, .int .i64 b4, .int .i64 b5, .int .i64 b6, .bool b7] 38)).cell? ⟨w.heap.size, 3, none⟩ = some (.int .i64 a3) ∧ ((w.alloc (.cells #[.int .i64 a0, .int .i64 a1, .int .i64 a2, .int .i64 a3, .int .i64 a4, .int .i64 a5, .int .i64 a6, .bool a7] 38)).alloc (.cells #[.int .i64 b0, .int .i64 b1, .int .i64 b2, .int .i64 b3, .int .i64 b4, .int .i64 b5, .int .i64 b6, .bool b7] 38)).cell? ⟨w.heap.size, 4, none⟩ = some (.int .i64 a4) ∧ ((w.alloc (.cells #[.int .i64 a0, .int .i64 a1, .int .i64 a2, .int .i64 a3, .int .i64 a4, .int .i64 a5, .int .i64 a6, .bool a7] 38)).alloc (.cells #[.int .i64 b0, .int .i64 b1, .int .i64 b2, .int .i64 b3, .int .i64 b4, .int .i64 b5, .int .i64 b6, .bool b7] 38)).cell? ⟨w.heap.size, 5, none⟩ = some (.int .i64 a5) ∧ ((w.alloc (.cells #[.int .i64 a0, .int .i64 a1, .int .i64 a2, .int .i64 a3, .int .i64 a4, .int .i64 a5, .int .i64 a6, .bool a7] 38)).alloc (.cells #[.int .i64 b0, .int .i64 b1, .int .i64 b2, .int .i64 b3, .int .i64 b4, .int .i64 b5, .int .i64 b6, .bool b7] 38)).cell? ⟨w.heap.size, 6, none⟩ = some (.int .i64 a6) ∧ ((w.alloc (.cells #[.int .i64 a0, .int .i64 a1, .int .i64 a2, .int .i64 a3, .int .i64 a4, .int .i64 a5, .int .i64 a6, .bool a7] 38)).alloc (.cells #[.int .i64 b0, .int .i64 b1, .int .i64 b2, .int .i64 b3, .int .i64 b4, .int .i64 b5, .int .i64 b6, .bool b7] 38)).cell? ⟨w.heap.size, 7, none⟩ = some (.bool a7)) ∧ (((w.alloc (.cells #[.int .i64 a0, .int .i64 a1, .int .i64 a2, .int .i64 a3, .int .i64 a4, .int .i64 a5, .int .i64 a6, .bool a7] 38)).alloc (.cells #[.int .i64 b0, .int .i64 b1, .int .i64 b2, .int .i64 b3, .int .i64 b4, .int .i64 b5, .int .i64 b6, .bool b7] 38)).cell? ⟨w.heap.size + 1, 0, none⟩ = some (.int .i64 b0) ∧ ((w.alloc (.cells #[.int .i64 a0, .int .i64 a1, .int .i64 a2, .int .i64 a3, .int .i64 a4, .int .i64 a5, .int .i64 a6, .bool a7] 38)).alloc (.cells #[.int .i64 b0, .int .i64 b1, .int .i64 b2, .int .i64 b3, .int .i64 b4, .int .i64 b5, .int .i64 b6, .bool b7] 38)).cell? ⟨w.heap.size + 1, 1, none⟩ = some (.int .i64 b1) ∧ ((w.alloc (.cells #[.int .i64 a0, .int .i64 a1, .int .i64 a2, .int .i64 a3, .int .i64 a4, .int .i64 a5, .int .i64 a6, .bool a7] 38)).alloc (.cells #[.int .i64 b0, .int .i64 b1, .int .i64 b2, .int .i64 b3, .int .i64 b4, .int .i64 b5, .int .i64 b6, .bool b7] 38)).cell? ⟨w.heap.size + 1, 2, none⟩ = some (.int .i64 b2) ∧ ((w.alloc (.cells #[.int .i64 a0, .int .i64 a1, .int .i64 a2, .int .i64 a3, .int .i64 a4, .int .i64 a5, .int .i64 a6, .bool a7] 38)).alloc (.cells #[.int .i64 b0, .int .i64 b1, .int .i64 b2, .int .i64 b3, .int .i64 b4, .int .i64 b5, .int .i64 b6, .bool b7] 38)).cell? ⟨w.heap.size + 1, 3, none⟩ = some (.int .i64 b3) ∧ ((w.alloc (.cells #[.int .i64 a0, .int .i64 a1, .int .i64 a2, .int .i64 a3, .int .i64 a4, .int .i64 a5, .int .i64 a6, .bool a7] 38)).alloc (.cells #[.int .i64 b0, .int .i64 b1, .int .i64 b2, .int .i64 b3, .int .i64 b4, .int .i64 b5, .int .i64 b6, .bool b7] 38)).cell? ⟨w.heap.size + 1, 4, none⟩ = some (.int .i64 b4) ∧ ((w.alloc (.cells #[.int .i64 a0, .int .i64 a1, .int .i64 a2, .int .i64 a3, .int .i64 a4, .int .i64 a5, .int .i64 a6, .bool a7] 38)).alloc (.cells #[.int .i64 b0, .int .i64 b1, .int .i64 b2, .int .i64 b3, .int .i64 b4, .int .i64 b5, .int .i64 b6, .bool b7] 38)).cell? ⟨w.heap.size + 1, 5, none⟩ = some (.int .i64 b5) ∧ ((w.alloc (.cells #[.int .i64 a0, .int .i64 a1, .int .i64 a2, .int .i64 a3, .int .i64 a4, .int .i64 a5, .int .i64 a6, .bool a7] 38)).alloc (.cells #[.int .i64 b0, .int .i64 b1, .int .i64 b2, .int .i64 b3, .int .i64 b4, .int .i64 b5, .int .i64 b6, .bool b7] 38)).cell? ⟨w.heap.size + 1, 6, none⟩ = some (.int .i64 b6) ∧ ((w.alloc (.cells #[.int .i64 a0, .int .i64 a1, .int .i64 a2, .int .i64 a3, .int .i64 a4, .int .i64 a5, .int .i64 a6, .bool a7] 38)).alloc (.cells #[.int .i64 b0, .int .i64 b1, .int .i64 b2, .int .i64 b3, .int .i64 b4, .int .i64 b5, .int .i64 b6, .bool b7] 38)).cell? ⟨w.heap.size + 1, 7, none⟩ = some (.bool b7))) := by simp [go_sem]
  have zU : ((w.alloc (.cells #[.int .i64 a0, .int .i64 a1, .int .i64 a2, .int .i64 a3, .int .i64 a4, .int .i64 a5, .int .i64 a6, .bool a7] 38)).alloc (.cells #[.int .i64 b0, .int .i64 b1, .int .i64 b2, .int .i64 b3, .int .i64 b4, .int .i64 b5, .int .i64 b6, .bool b7] 38)).heap.size = w.heap.size + 2 := by simp
  generalize (w.alloc (.cells #[.int .i64 a0, .int .i64 a1, .int .i64 a2, .int .i64 a3, .int .i64 a4, .int .i64 a5, .int .i64 a6, .bool a7] 38)).alloc (.cells #[.int .i64 b0, .int .i64 b1, .int .i64 b2, .int .i64 b3, .int .i64 b4, .int .i64 b5, .int .i64 b6, .bool b7] 38) = U at *
  have lA : w.heap.size < U.heap.size := by omega
  have lB : w.heap.size + 1 < U.heap.size := by omega
  clear zU
  obtain ⟨⟨A0, A1, A2, A3, A4, A5, A6, A7⟩, ⟨B0, B1, B2, B3, B4, B5, B6, B7⟩⟩ := kU
  refine wp_region_quiet (C := fun W => Below U.heap.size U W) (by kernel_rfl) (by kernel_rfl) ((Below.refl _ _).drew) ?_
  dsimp only
  go_big_quiet_want; refine ⟨.agg #[.int .i64 a0, .int .i64 a1, .int .i64 a2, .int .i64 a3, .int .i64 a4, .int .i64 a5, .int .i64 a6, .bool a7], fun W hW => (by have y0 := (hW.cell (p := ⟨w.heap.size, 0, none⟩) lA).trans A0; have y1 := (hW.cell (p := ⟨w.heap.size, 1, none⟩) lA).trans A1; have y2 := (hW.cell (p := ⟨w.heap.size, 2, none⟩) lA).trans A2; have y3 := (hW.cell (p := ⟨w.heap.size, 3, none⟩) lA).trans A3; have y4 := (hW.cell (p := ⟨w.heap.size, 4, none⟩) lA).trans A4; have y5 := (hW.cell (p := ⟨w.heap.size, 5, none⟩) lA).trans A5; have y6 := (hW.cell (p := ⟨w.heap.size, 6, none⟩) lA).trans A6; have y7 := (hW.cell (p := ⟨w.heap.size, 7, none⟩) lA).trans A7; simp [Oper.quietAt, Oper.quietUpon, go_sem, y0, y1, y2, y3, y4, y5, y6, y7]), ?_⟩; simp only [Act.put, List.setIfInBounds_toArray, List.set_cons_zero, List.set_cons_succ]; go_big_quiet_on
  go_big_quiet_want; go_big_quiet_op; refine ⟨_, fun W hW => quietCall hW (HA W).out, ?_⟩; go_big_quiet_on
  iterate 12 (first | go_big_quiet_skip | (go_big_quiet_want; go_big_quiet_op; first | go_big_quiet_on | (refine ⟨_, fun _ _ => rfl, ?_⟩; go_big_quiet_on)))
  refine wpQuiet_nil ?_
  intro X hX
  go_wp2
  go_ret
  exact ⟨by rw [HO.out]; rfl, bU0.trans (hX.mono (by omega))⟩
 rcases hb : okB ⟨b0, b1, b2, b3, b4, b5, b6, b7⟩
 ·have HO := Lib.hid (show nmLessB ⟨a0, a1, a2, a3, a4, a5, a6, a7⟩ ⟨b0, b1, b2, b3, b4, b5, b6, b7⟩ = false by simp [nmLessB, ha, hb])
  rw [ha] at HA
  rw [hb] at HB
  clear ha hb
  unfold nmV at *
  go_enter Tryz.func224, Tryz.ntmps224
  go_wp2_with fail
  have bU0 := HB0.out (.cells #[.int .i64 a0, .int .i64 a1, .int .i64 a2, .int .i64 a3, .int .i64 a4, .int .i64 a5, .int .i64 a6, .bool a7] 38) (.cells #[.int .i64 b0, .int .i64 b1, .int .i64 b2, .int .i64 b3, .int .i64 b4, .int .i64 b5, .int .i64 b6, .bool b7] 38)
  have kU : ((((w.alloc (.cells #[.int .i64 a0, .int .i64 a1, .int .i64 a2, .int .i64 a3, .int .i64 a4, .int .i64 a5, .int .i64 a6, .bool a7] 38)).alloc (.cells #[.int .i64 b0, .int .i64 b1, .int .i64 b2, .int .i64 b3, .int .i64 b4, .int .i64 b5, .int .i64 b6, .bool b7] 38)).cell? ⟨w.heap.size, 0, none⟩ = some (.int .i64 a0) ∧ ((w.alloc (.cells #[.int .i64 a0, .int .i64 a1, .int .i64 a2, .int .i64 a3, .int .i64 a4, .int .i64 a5, .int .i64 a6, .bool a7] 38)).alloc (.cells #[.int .i64 b0, .int .i64 b1, .int .i64 b2, .int .i64 b3, .int .i64 b4, .int .i64 b5, .int .i64 b6, .bool b7] 38)).cell? ⟨w.heap.size, 1, none⟩ = some (.int .i64 a1) ∧ ((w.alloc (.cells #[.int .i64 a0, .int .i64 a1, .int .i64 a2, .int .i64 a3, .int .i64 a4, .int .i64 a5, .int .i64 a6, .bool a7] 38)).alloc (.cells #[.int .i64 b0, .int .i64 b1, .int .i64 b2, .int .i64 b3, .int .i64 b4, .int .i64 b5, .int .i64 b6, .bool b7] 38)).cell? ⟨w.heap.size, 2, none⟩ = some (.int .i64 a2) ∧ ((w.alloc (.cells #[.int .i64 a0, .int .i64 a1, .int .i64 a2, .int .i64 a3, .int .i64 a4, .int .i64 a5, .int .i64 a6, .bool a7] 38)).alloc (.cells #[.int .i64 b0, .int .i64 b1, .int .i64 b2, .int .i64 b3, .int .i64 b4, .int .i64 b5, .int .i64 b6, .bool b7] 38)).cell? ⟨w.heap.size, 3, none⟩ = some (.int .i64 a3) ∧ ((w.alloc (.cells #[.int .i64 a0, .int .i64 a1, .int .i64 a2, .int .i64 a3, .int .i64 a4, .int .i64 a5, .int .i64 a6, .bool a7] 38)).alloc (.cells #[.int .i64 b0, .int .i64 b1, .int .i64 b2, .int .i64 b3, .int .i64 b4, .int .i64 b5, .int .i64 b6, .bool b7] 38)).cell? ⟨w.heap.size, 4, none⟩ = some (.int .i64 a4) ∧ ((w.alloc (.cells #[.int .i64 a0, .int .i64 a1, .int .i64 a2, .int .i64 a3, .int .i64 a4, .int .i64 a5, .int .i64 a6, .bool a7] 38)).alloc (.cells #[.int .i64 b0, .int .i64 b1, .int .i64 b2, .int .i64 b3, .int .i64 b4, .int .i64 b5, .int .i64 b6, .bool b7] 38)).cell? ⟨w.heap.size, 5, none⟩ = some (.int .i64 a5) ∧ ((w.alloc (.cells #[.int .i64 a0, .int .i64 a1, .int .i64 a2, .int .i64 a3, .int .i64 a4, .int .i64 a5, .int .i64 a6, .bool a7] 38)).alloc (.cells #[.int .i64 b0, .int .i64 b1, .int .i64 b2, .int .i64 b3, .int .i64 b4, .int .i64 b5, .int .i64 b6, .bool b7] 38)).cell? ⟨w.heap.size, 6, none⟩ = some (.int .i64 a6) ∧ ((w.alloc (.cells #[.int .i64 a0, .int .i64 a1, .int .i64 a2, .int .i64 a3, .int .i64 a4, .int .i64 a5, .int .i64 a6, .bool a7] 38)).alloc (.cells #[.int .i64 b0, .int .i64 b1, .int .i64 b2, .int .i64 b3, .int .i64 b4, .int .i64 b5, .int .i64 b6, .bool b7] 38)).cell? ⟨w.heap.size, 7, none⟩ = some (.bool a7)) ∧ (((w.alloc (.cells #[.int .i64 a0, .int .i64 a1, .int .i64 a2, .int .i64 a3, .int .i64 a4, .int .i64 a5, .int .i64 a6, .bool a7] 38)).alloc (.cells #[.int .i64 b0, .int .i64 b1, .int .i64 b2, .int .i64 b3, .int .i64 b4, .int .i64 b5, .int .i64 b6, .bool b7] 38)).cell? ⟨w.heap.size + 1, 0, none⟩ = some (.int .i64 b0) ∧ ((w.alloc (.cells #[.int .i64 a0, .int .i64 a1, .int .i64 a2, .int .i64 a3, .int .i64 a4, .int .i64 a5, .int .i64 a6, .bool a7] 38)).alloc (.cells #[.int .i64 b0, .int .i64 b1, .int .i64 b2, .int .i64 b3, .int .i64 b4, .int .i64 b5, .int .i64 b6, .bool b7] 38)).cell? ⟨w.heap.size + 1, 1, none⟩ = some (.int .i64 b1) ∧ ((w.alloc (.cells #[.int .i64 a0, .int .i64 a1, .int .i64 a2, .int .i64 a3, .int .i64 a4, .int .i64 a5, .int .i64 a6, .bool a7] 38)).alloc (.cells #[.int .i64 b0, .int .i64 b1, .int .i64 b2, .int .i64 b3, .int .i64 b4, .int .i64 b5, .int .i64 b6, .bool b7] 38)).cell? ⟨w.heap.size + 1, 2, none⟩ = some (.int .i64 b2) ∧ ((w.alloc (.cells #[.int .i64 a0, .int .i64 a1, .int .i64 a2, .int .i64 a3, .int .i64 a4, .int .i64 a5, .int .i64 a6, .bool a7] 38)).alloc (.cells #[.int .i64 b0, .int .i64 b1, .int .i64 b2, .int .i64 b3, .int .i64 b4, .int .i64 b5, .int .i64 b6, .bool b7] 38)).cell? ⟨w.heap.size + 1, 3, none⟩ = some (.int .i64 b3) ∧ ((w.alloc (.cells #[.int .i64 a0, .int .i64 a1, .int .i64 a2, .int .i64 a3, .int .i64 a4, .int .i64 a5, .int .i64 a6, .bool a7] 38)).alloc (.cells #[.int .i64 b0, .int .i64 b1, .int .i64 b2, .int .i64 b3, .int .i64 b4, .int .i64 b5, .int .i64 b6, .bool b7] 38)).cell? ⟨w.heap.size + 1, 4, none⟩ = some (.int .i64 b4) ∧ ((w.alloc (.cells #[.int .i64 a0, .int .i64 a1, .int .i64 a2, .int .i64 a3, .int .i64 a4, .int .i64 a5, .int .i64 a6, .bool a7] 38)).alloc (.cells #[.int .i64 b0, .int .i64 b1, .int .i64 b2, .int .i64 b3, .int .i64 b4, .int .i64 b5, .int .i64 b6, .bool b7] 38)).cell? ⟨w.heap.size + 1, 5, none⟩ = some (.int .i64 b5) ∧ ((w.alloc (.cells #[.int .i64 a0, .int .i64 a1, .int .i64 a2, .int .i64 a3, .int .i64 a4, .int .i64 a5, .int .i64 a6, .bool a7] 38)).alloc (.cells #[.int .i64 b0, .int .i64 b1, .int .i64 b2, .int .i64 b3, .int .i64 b4, .int .i64 b5, .int .i64 b6, .bool b7] 38)).cell? ⟨w.heap.size + 1, 6, none⟩ = some (.int .i64 b6) ∧ ((w.alloc (.cells #[.int .i64 a0, .int .i64 a1, .int .i64 a2, .int .i64 a3, .int .i64 a4, .int .i64 a5, .int .i64 a6, .bool a7] 38)).alloc (.cells #[.int .i64 b0, .int .i64 b1, .int .i64 b2, .int .i64 b3, .int .i64 b4, .int .i64 b5, .int .i64 b6, .bool b7] 38)).cell? ⟨w.heap.size + 1, 7, none⟩ = some (.bool b7))) := by simp [go_sem]
  have zU : ((w.alloc (.cells #[.int .i64 a0, .int .i64 a1, .int .i64 a2, .int .i64 a3, .int .i64 a4, .int .i64 a5, .int .i64 a6, .bool a7] 38)).alloc (.cells #[.int .i64 b0, .int .i64 b1, .int .i64 b2, .int .i64 b3, .int .i64 b4, .int .i64 b5, .int .i64 b6, .bool b7] 38)).heap.size = w.heap.size + 2 := by simp
  generalize (w.alloc (.cells #[.int .i64 a0, .int .i64 a1, .int .i64 a2, .int .i64 a3, .int .i64 a4, .int .i64 a5, .int .i64 a6, .bool a7] 38)).alloc (.cells #[.int .i64 b0, .int .i64 b1, .int .i64 b2, .int .i64 b3, .int .i64 b4, .int .i64 b5, .int .i64 b6, .bool b7] 38) = U at *
  have lA : w.heap.size < U.heap.size := by omega
  have lB : w.heap.size + 1 < U.heap.size := by omega
  clear zU
  obtain ⟨⟨A0, A1, A2, A3, A4, A5, A6, A7⟩, ⟨B0, B1, B2, B3, B4, B5, B6, B7⟩⟩ := kU
  refine wp_region_quiet (C := fun W => Below U.heap.size U W) (by kernel_rfl) (by kernel_rfl) ((Below.refl _ _).drew) ?_
  dsimp only
  go_big_quiet_want; refine ⟨.agg #[.int .i64 a0, .int .i64 a1, .int .i64 a2, .int .i64 a3, .int .i64 a4, .int .i64 a5, .int .i64 a6, .bool a7], fun W hW => (by have y0 := (hW.cell (p := ⟨w.heap.size, 0, none⟩) lA).trans A0; have y1 := (hW.cell (p := ⟨w.heap.size, 1, none⟩) lA).trans A1; have y2 := (hW.cell (p := ⟨w.heap.size, 2, none⟩) lA).trans A2; have y3 := (hW.cell (p := ⟨w.heap.size, 3, none⟩) lA).trans A3; have y4 := (hW.cell (p := ⟨w.heap.size, 4, none⟩) lA).trans A4; have y5 := (hW.cell (p := ⟨w.heap.size, 5, none⟩) lA).trans A5; have y6 := (hW.cell (p := ⟨w.heap.size, 6, none⟩) lA).trans A6; have y7 := (hW.cell (p := ⟨w.heap.size, 7, none⟩) lA).trans A7; simp [Oper.quietAt, Oper.quietUpon, go_sem, y0, y1, y2, y3, y4, y5, y6, y7]), ?_⟩; simp only [Act.put, List.setIfInBounds_toArray, List.set_cons_zero, List.set_cons_succ]; go_big_quiet_on
  go_big_quiet_want; go_big_quiet_op; refine ⟨_, fun W hW => quietCall hW (HA W).out, ?_⟩; go_big_quiet_on
  first | go_big_quiet_skip | (go_big_quiet_want; go_big_quiet_op; first | go_big_quiet_on | (refine ⟨_, fun _ _ => rfl, ?_⟩; go_big_quiet_on))
  go_big_quiet_want; refine ⟨.agg #[.int .i64 b0, .int .i64 b1, .int .i64 b2, .int .i64 b3, .int .i64 b4, .int .i64 b5, .int .i64 b6, .bool b7], fun W hW => (by have y0 := (hW.cell (p := ⟨w.heap.size + 1, 0, none⟩) lB).trans B0; have y1 := (hW.cell (p := ⟨w.heap.size + 1, 1, none⟩) lB).trans B1; have y2 := (hW.cell (p := ⟨w.heap.size + 1, 2, none⟩) lB).trans B2; have y3 := (hW.cell (p := ⟨w.heap.size + 1, 3, none⟩) lB).trans B3; have y4 := (hW.cell (p := ⟨w.heap.size + 1, 4, none⟩) lB).trans B4; have y5 := (hW.cell (p := ⟨w.heap.size + 1, 5, none⟩) lB).trans B5; have y6 := (hW.cell (p := ⟨w.heap.size + 1, 6, none⟩) lB).trans B6; have y7 := (hW.cell (p := ⟨w.heap.size + 1, 7, none⟩) lB).trans B7; simp [Oper.quietAt, Oper.quietUpon, go_sem, y0, y1, y2, y3, y4, y5, y6, y7]), ?_⟩; simp only [Act.put, List.setIfInBounds_toArray, List.set_cons_zero, List.set_cons_succ]; go_big_quiet_on
  go_big_quiet_want; go_big_quiet_op; refine ⟨_, fun W hW => quietCall hW (HB W).out, ?_⟩; go_big_quiet_on
  iterate 9 (first | go_big_quiet_skip | (go_big_quiet_want; go_big_quiet_op; first | go_big_quiet_on | (refine ⟨_, fun _ _ => rfl, ?_⟩; go_big_quiet_on)))
  refine wpQuiet_nil ?_
  intro X hX
  go_wp2
  go_ret
  exact ⟨by rw [HO.out]; rfl, bU0.trans (hX.mono (by omega))⟩
 ·have HNA := fun W => Lib.hid (nameNumber_any _ W ha)
  have HNB := fun W => Lib.hid (nameNumber_any _ W hb)
  have hd := show nmLessB ⟨a0, a1, a2, a3, a4, a5, a6, a7⟩ ⟨b0, b1, b2, b3, b4, b5, b6, b7⟩ = decide (nmN ⟨a0, a1, a2, a3, a4, a5, a6, a7⟩ < nmN ⟨b0, b1, b2, b3, b4, b5, b6, b7⟩) by simp [nmLessB, ha, hb]
  rw [ha] at HA
  rw [hb] at HB
  clear ha hb
  generalize nmN ⟨a0, a1, a2, a3, a4, a5, a6, a7⟩ = x at *
  generalize nmN ⟨b0, b1, b2, b3, b4, b5, b6, b7⟩ = y at *
  have HO := Lib.hid (show nmLessB ⟨a0, a1, a2, a3, a4, a5, a6, a7⟩ ⟨b0, b1, b2, b3, b4, b5, b6, b7⟩ = decide (x < y) from hd)
  clear hd
  unfold nmV at *
  go_enter Tryz.func224, Tryz.ntmps224
  go_wp2_with fail
  have bU0 := HB0.out (.cells #[.int .i64 a0, .int .i64 a1, .int .i64 a2, .int .i64 a3, .int .i64 a4, .int .i64 a5, .int .i64 a6, .bool a7] 38) (.cells #[.int .i64 b0, .int .i64 b1, .int .i64 b2, .int .i64 b3, .int .i64 b4, .int .i64 b5, .int .i64 b6, .bool b7] 38)
  have kU : ((((w.alloc (.cells #[.int .i64 a0, .int .i64 a1, .int .i64 a2, .int .i64 a3, .int .i64 a4, .int .i64 a5, .int .i64 a6, .bool a7] 38)).alloc (.cells #[.int .i64 b0, .int .i64 b1, .int .i64 b2, .int .i64 b3, .int .i64 b4, .int .i64 b5, .int .i64 b6, .bool b7] 38)).cell? ⟨w.heap.size, 0, none⟩ = some (.int .i64 a0) ∧ ((w.alloc (.cells #[.int .i64 a0, .int .i64 a1, .int .i64 a2, .int .i64 a3, .int .i64 a4, .int .i64 a5, .int .i64 a6, .bool a7] 38)).alloc (.cells #[.int .i64 b0, .int .i64 b1, .int .i64 b2, .int .i64 b3, .int .i64 b4, .int .i64 b5, .int .i64 b6, .bool b7] 38)).cell? ⟨w.heap.size, 1, none⟩ = some (.int .i64 a1) ∧ ((w.alloc (.cells #[.int .i64 a0, .int .i64 a1, .int .i64 a2, .int .i64 a3, .int .i64 a4, .int .i64 a5, .int .i64 a6, .bool a7] 38)).alloc (.cells #[.int .i64 b0, .int .i64 b1, .int .i64 b2, .int .i64 b3, .int .i64 b4, .int .i64 b5, .int .i64 b6, .bool b7] 38)).cell? ⟨w.heap.size, 2, none⟩ = some (.int .i64 a2) ∧ ((w.alloc (.cells #[.int .i64 a0, .int .i64 a1, .int .i64 a2, .int .i64 a3, .int .i64 a4, .int .i64 a5, .int .i64 a6, .bool a7] 38)).alloc (.cells #[.int .i64 b0, .int .i64 b1, .int .i64 b2, .int .i64 b3, .int .i64 b4, .int .i64 b5, .int .i64 b6, .bool b7] 38)).cell? ⟨w.heap.size, 3, none⟩ = some (.int .i64 a3) ∧ ((w.alloc (.cells #[.int .i64 a0, .int .i64 a1, .int .i64 a2, .int .i64 a3, .int .i64 a4, .int .i64 a5, .int .i64 a6, .bool a7] 38)).alloc (.cells #[.int .i64 b0, .int .i64 b1, .int .i64 b2, .int .i64 b3, .int .i64 b4, .int .i64 b5, .int .i64 b6, .bool b7] 38)).cell? ⟨w.heap.size, 4, none⟩ = some (.int .i64 a4) ∧ ((w.alloc (.cells #[.int .i64 a0, .int .i64 a1, .int .i64 a2, .int .i64 a3, .int .i64 a4, .int .i64 a5, .int .i64 a6, .bool a7] 38)).alloc (.cells #[.int .i64 b0, .int .i64 b1, .int .i64 b2, .int .i64 b3, .int .i64 b4, .int .i64 b5, .int .i64 b6, .bool b7] 38)).cell? ⟨w.heap.size, 5, none⟩ = some (.int .i64 a5) ∧ ((w.alloc (.cells #[.int .i64 a0, .int .i64 a1, .int .i64 a2, .int .i64 a3, .int .i64 a4, .int .i64 a5, .int .i64 a6, .bool a7] 38)).alloc (.cells #[.int .i64 b0, .int .i64 b1, .int .i64 b2, .int .i64 b3, .int .i64 b4, .int .i64 b5, .int .i64 b6, .bool b7] 38)).cell? ⟨w.heap.size, 6, none⟩ = some (.int .i64 a6) ∧ ((w.alloc (.cells #[.int .i64 a0, .int .i64 a1, .int .i64 a2, .int .i64 a3, .int .i64 a4, .int .i64 a5, .int .i64 a6, .bool a7] 38)).alloc (.cells #[.int .i64 b0, .int .i64 b1, .int .i64 b2, .int .i64 b3, .int .i64 b4, .int .i64 b5, .int .i64 b6, .bool b7] 38)).cell? ⟨w.heap.size, 7, none⟩ = some (.bool a7)) ∧ (((w.alloc (.cells #[.int .i64 a0, .int .i64 a1, .int .i64 a2, .int .i64 a3, .int .i64 a4, .int .i64 a5, .int .i64 a6, .bool a7] 38)).alloc (.cells #[.int .i64 b0, .int .i64 b1, .int .i64 b2, .int .i64 b3, .int .i64 b4, .int .i64 b5, .int .i64 b6, .bool b7] 38)).cell? ⟨w.heap.size + 1, 0, none⟩ = some (.int .i64 b0) ∧ ((w.alloc (.cells #[.int .i64 a0, .int .i64 a1, .int .i64 a2, .int .i64 a3, .int .i64 a4, .int .i64 a5, .int .i64 a6, .bool a7] 38)).alloc (.cells #[.int .i64 b0, .int .i64 b1, .int .i64 b2, .int .i64 b3, .int .i64 b4, .int .i64 b5, .int .i64 b6, .bool b7] 38)).cell? ⟨w.heap.size + 1, 1, none⟩ = some (.int .i64 b1) ∧ ((w.alloc (.cells #[.int .i64 a0, .int .i64 a1, .int .i64 a2, .int .i64 a3, .int .i64 a4, .int .i64 a5, .int .i64 a6, .bool a7] 38)).alloc (.cells #[.int .i64 b0, .int .i64 b1, .int .i64 b2, .int .i64 b3, .int .i64 b4, .int .i64 b5, .int .i64 b6, .bool b7] 38)).cell? ⟨w.heap.size + 1, 2, none⟩ = some (.int .i64 b2) ∧ ((w.alloc (.cells #[.int .i64 a0, .int .i64 a1, .int .i64 a2, .int .i64 a3, .int .i64 a4, .int .i64 a5, .int .i64 a6, .bool a7] 38)).alloc (.cells #[.int .i64 b0, .int .i64 b1, .int .i64 b2, .int .i64 b3, .int .i64 b4, .int .i64 b5, .int .i64 b6, .bool b7] 38)).cell? ⟨w.heap.size + 1, 3, none⟩ = some (.int .i64 b3) ∧ ((w.alloc (.cells #[.int .i64 a0, .int .i64 a1, .int .i64 a2, .int .i64 a3, .int .i64 a4, .int .i64 a5, .int .i64 a6, .bool a7] 38)).alloc (.cells #[.int .i64 b0, .int .i64 b1, .int .i64 b2, .int .i64 b3, .int .i64 b4, .int .i64 b5, .int .i64 b6, .bool b7] 38)).cell? ⟨w.heap.size + 1, 4, none⟩ = some (.int .i64 b4) ∧ ((w.alloc (.cells #[.int .i64 a0, .int .i64 a1, .int .i64 a2, .int .i64 a3, .int .i64 a4, .int .i64 a5, .int .i64 a6, .bool a7] 38)).alloc (.cells #[.int .i64 b0, .int .i64 b1, .int .i64 b2, .int .i64 b3, .int .i64 b4, .int .i64 b5, .int .i64 b6, .bool b7] 38)).cell? ⟨w.heap.size + 1, 5, none⟩ = some (.int .i64 b5) ∧ ((w.alloc (.cells #[.int .i64 a0, .int .i64 a1, .int .i64 a2, .int .i64 a3, .int .i64 a4, .int .i64 a5, .int .i64 a6, .bool a7] 38)).alloc (.cells #[.int .i64 b0, .int .i64 b1, .int .i64 b2, .int .i64 b3, .int .i64 b4, .int .i64 b5, .int .i64 b6, .bool b7] 38)).cell? ⟨w.heap.size + 1, 6, none⟩ = some (.int .i64 b6) ∧ ((w.alloc (.cells #[.int .i64 a0, .int .i64 a1, .int .i64 a2, .int .i64 a3, .int .i64 a4, .int .i64 a5, .int .i64 a6, .bool a7] 38)).alloc (.cells #[.int .i64 b0, .int .i64 b1, .int .i64 b2, .int .i64 b3, .int .i64 b4, .int .i64 b5, .int .i64 b6, .bool b7] 38)).cell? ⟨w.heap.size + 1, 7, none⟩ = some (.bool b7))) := by simp [go_sem]
  have zU : ((w.alloc (.cells #[.int .i64 a0, .int .i64 a1, .int .i64 a2, .int .i64 a3, .int .i64 a4, .int .i64 a5, .int .i64 a6, .bool a7] 38)).alloc (.cells #[.int .i64 b0, .int .i64 b1, .int .i64 b2, .int .i64 b3, .int .i64 b4, .int .i64 b5, .int .i64 b6, .bool b7] 38)).heap.size = w.heap.size + 2 := by simp
  generalize (w.alloc (.cells #[.int .i64 a0, .int .i64 a1, .int .i64 a2, .int .i64 a3, .int .i64 a4, .int .i64 a5, .int .i64 a6, .bool a7] 38)).alloc (.cells #[.int .i64 b0, .int .i64 b1, .int .i64 b2, .int .i64 b3, .int .i64 b4, .int .i64 b5, .int .i64 b6, .bool b7] 38) = U at *
  have hK : ∀ W, Below U.heap.size U W → (fun W => ((W.cell? ⟨w.heap.size, 0, none⟩ = some (.int .i64 a0) ∧ W.cell? ⟨w.heap.size, 1, none⟩ = some (.int .i64 a1) ∧ W.cell? ⟨w.heap.size, 2, none⟩ = some (.int .i64 a2) ∧ W.cell? ⟨w.heap.size, 3, none⟩ = some (.int .i64 a3) ∧ W.cell? ⟨w.heap.size, 4, none⟩ = some (.int .i64 a4) ∧ W.cell? ⟨w.heap.size, 5, none⟩ = some (.int .i64 a5) ∧ W.cell? ⟨w.heap.size, 6, none⟩ = some (.int .i64 a6) ∧ W.cell? ⟨w.heap.size, 7, none⟩ = some (.bool a7)) ∧ (W.cell? ⟨(w.heap.size + 1), 0, none⟩ = some (.int .i64 b0) ∧ W.cell? ⟨(w.heap.size + 1), 1, none⟩ = some (.int .i64 b1) ∧ W.cell? ⟨(w.heap.size + 1), 2, none⟩ = some (.int .i64 b2) ∧ W.cell? ⟨(w.heap.size + 1), 3, none⟩ = some (.int .i64 b3) ∧ W.cell? ⟨(w.heap.size + 1), 4, none⟩ = some (.int .i64 b4) ∧ W.cell? ⟨(w.heap.size + 1), 5, none⟩ = some (.int .i64 b5) ∧ W.cell? ⟨(w.heap.size + 1), 6, none⟩ = some (.int .i64 b6) ∧ W.cell? ⟨(w.heap.size + 1), 7, none⟩ = some (.bool b7))) ∧ Below U.heap.size U W) W := fun W hW => ⟨by simp only [hW.cell (p := ⟨w.heap.size, _, none⟩) (show w.heap.size < U.heap.size by omega), hW.cell (p := ⟨w.heap.size + 1, _, none⟩) (show w.heap.size + 1 < U.heap.size by omega)]; exact kU, hW⟩
  have HK := Lib.hid hK
  have hS : ∀ W W', (fun W => ((W.cell? ⟨w.heap.size, 0, none⟩ = some (.int .i64 a0) ∧ W.cell? ⟨w.heap.size, 1, none⟩ = some (.int .i64 a1) ∧ W.cell? ⟨w.heap.size, 2, none⟩ = some (.int .i64 a2) ∧ W.cell? ⟨w.heap.size, 3, none⟩ = some (.int .i64 a3) ∧ W.cell? ⟨w.heap.size, 4, none⟩ = some (.int .i64 a4) ∧ W.cell? ⟨w.heap.size, 5, none⟩ = some (.int .i64 a5) ∧ W.cell? ⟨w.heap.size, 6, none⟩ = some (.int .i64 a6) ∧ W.cell? ⟨w.heap.size, 7, none⟩ = some (.bool a7)) ∧ (W.cell? ⟨(w.heap.size + 1), 0, none⟩ = some (.int .i64 b0) ∧ W.cell? ⟨(w.heap.size + 1), 1, none⟩ = some (.int .i64 b1) ∧ W.cell? ⟨(w.heap.size + 1), 2, none⟩ = some (.int .i64 b2) ∧ W.cell? ⟨(w.heap.size + 1), 3, none⟩ = some (.int .i64 b3) ∧ W.cell? ⟨(w.heap.size + 1), 4, none⟩ = some (.int .i64 b4) ∧ W.cell? ⟨(w.heap.size + 1), 5, none⟩ = some (.int .i64 b5) ∧ W.cell? ⟨(w.heap.size + 1), 6, none⟩ = some (.int .i64 b6) ∧ W.cell? ⟨(w.heap.size + 1), 7, none⟩ = some (.bool b7))) ∧ Below U.heap.size U W) W → Below W.heap.size W W' → Below U.heap.size U W' := fun W W' hW h => hW.2.trans (h.mono hW.2.size)
  have HS := Lib.hid hS
  clear hK hS kU
  first
   | (go_region_held3 (fun W => ((W.cell? ⟨w.heap.size, 0, none⟩ = some (.int .i64 a0) ∧ W.cell? ⟨w.heap.size, 1, none⟩ = some (.int .i64 a1) ∧ W.cell? ⟨w.heap.size, 2, none⟩ = some (.int .i64 a2) ∧ W.cell? ⟨w.heap.size, 3, none⟩ = some (.int .i64 a3) ∧ W.cell? ⟨w.heap.size, 4, none⟩ = some (.int .i64 a4) ∧ W.cell? ⟨w.heap.size, 5, none⟩ = some (.int .i64 a5) ∧ W.cell? ⟨w.heap.size, 6, none⟩ = some (.int .i64 a6) ∧ W.cell? ⟨w.heap.size, 7, none⟩ = some (.bool a7)) ∧ (W.cell? ⟨(w.heap.size + 1), 0, none⟩ = some (.int .i64 b0) ∧ W.cell? ⟨(w.heap.size + 1), 1, none⟩ = some (.int .i64 b1) ∧ W.cell? ⟨(w.heap.size + 1), 2, none⟩ = some (.int .i64 b2) ∧ W.cell? ⟨(w.heap.size + 1), 3, none⟩ = some (.int .i64 b3) ∧ W.cell? ⟨(w.heap.size + 1), 4, none⟩ = some (.int .i64 b4) ∧ W.cell? ⟨(w.heap.size + 1), 5, none⟩ = some (.int .i64 b5) ∧ W.cell? ⟨(w.heap.size + 1), 6, none⟩ = some (.int .i64 b6) ∧ W.cell? ⟨(w.heap.size + 1), 7, none⟩ = some (.bool b7))) ∧ Below U.heap.size U W)
     (first | exact HK.out _ (Below.refl _ _).drew | exact HK.out _ (by assumption))
     (first
      | (go_at_call 186; with_reducible refine (HA _).out.mono ?_; rintro e w1 ⟨rfl, h1⟩; have q1 := HS.out _ _ (by assumption) h1; clear h1)
      | (go_at_call 186; with_reducible refine (HB _).out.mono ?_; rintro e w1 ⟨rfl, h1⟩; have q1 := HS.out _ _ (by assumption) h1; clear h1)
      | (go_at_call 243; with_reducible refine (HNA _).out.mono ?_; rintro e w1 ⟨rfl, h1⟩; have q1 := HS.out _ _ (by assumption) h1; clear h1)
      | (go_at_call 243; with_reducible refine (HNB _).out.mono ?_; rintro e w1 ⟨rfl, h1⟩; have q1 := HS.out _ _ (by assumption) h1; clear h1)))
   | fail
  all_goals
   go_wp2
   go_ret
   exact ⟨by rw [HO.out]; rfl, bU0.trans ((by assumption : Below U.heap.size U _).mono (by omega))⟩
end Go.Proofs.YtioldepgoodipaaGreat
