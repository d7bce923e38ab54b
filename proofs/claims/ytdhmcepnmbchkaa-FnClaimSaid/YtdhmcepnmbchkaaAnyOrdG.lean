/- A region that draws its order and whose guards are all on: XAnyOrd's theorem for it. -/
import Derived.Test.YtdhmcepnmbchkaaKnown
namespace Go.Proofs.Ytdhmcepnmbchkaa
open Go.RowKit
set_option linter.unusedVariables false
section
variable {P : Program} {ops : Array Oper} {Q : Exit → Act → World → Prop}
/-- No guard, or one whose operation is waited for and answers what is asked. -/
def GuardOn (ops : Array Oper) (T : Nat → World → Value → Prop) (a0 : Act) (o : Oper) : Prop :=
  o.guard = none ∨ ∃ (g : Nat) (b : Bool) (oj : Oper) (s : Nat), o.guard = some (g, b) ∧ o.after.any (fun e => e.on == g && Region.binds .any e) = true ∧ ops[g]? = some oj ∧ oj.dst = some s ∧ Nat.ble (s + 1) a0.tmps.size = true ∧ ∀ w v, T g w v → v = .bool b
theorem GuardOn.wanted {T : Nat → World → Value → Prop} {a0 a : Act} {o : Oper} {w : World} (h : GuardOn ops T a0 o) (hK : Known ops T a0 o a w) : Region.wanted o (yielded ops a.tmps) = true := by
  rcases h with h | ⟨g, b, oj, s, hg, he, hoj, hd, hs, hT⟩
  · simp [Region.wanted, h]
  · have h1 := hT w _ (hK.get g s he hoj hd hs)
    have h2 : a.tmps.getD s undef = .bool b := h1
    have h3 : a.tmps[s]? = some (.bool b) := by
      rw [Array.getD_eq_getD_getElem?] at h2
      cases hq : a.tmps[s]? with
      | none => rw [hq] at h2; exact absurd h2 (by simp [undef])
      | some v => rw [hq] at h2; exact congrArg some h2
    simp [Region.wanted, hg, yielded, hoj, hd, h3]
theorem GuardOn.on {T : Nat → World → Value → Prop} {a0 : Act} {o : Oper} (g : Nat) (b : Bool) (s : Nat) {oj : Oper} (hT : ∀ w v, T g w v → v = .bool b) (hg : o.guard = some (g, b)) (he : o.after.any (fun e => e.on == g && Region.binds .any e) = true) (hoj : ops[g]? = some oj) (hd : oj.dst = some s) (hs : Nat.ble (s + 1) a0.tmps.size = true) : GuardOn ops T a0 o :=
  .inr ⟨g, b, oj, s, hg, he, hoj, hd, hs, hT⟩
/-- One operation's part. -/
def ObG (P : Program) (ops : Array Oper) (Q : Exit → Act → World → Prop) (C : World → Prop) (R : World → World → Prop) (T : Nat → World → Value → Prop) (a0 : Act) (i : Nat) (o : Oper) : Prop :=
  GuardOn ops T a0 o ∧ ∀ a w, C w → Known ops T a0 o a w → o.wp P a w (fun a' w' => ∃ v, a' = a.put o.dst v ∧ C w' ∧ R w w' ∧ T i w' v) Q
def ObAllG (P : Program) (ops : Array Oper) (Q : Exit → Act → World → Prop) (C : World → Prop) (R : World → World → Prop) (T : Nat → World → Value → Prop) (a0 : Act) : List Oper → Nat → Prop
  | [], _ => True
  | o :: r, k => ObG P ops Q C R T a0 k o ∧ ObAllG P ops Q C R T a0 r (k + 1)
theorem ObAllG.get {C : World → Prop} {R : World → World → Prop} {T : Nat → World → Value → Prop} {a0 : Act} : ∀ (l : List Oper) (k i : Nat) (o : Oper), ObAllG P ops Q C R T a0 l k → l[i]? = some o → ObG P ops Q C R T a0 (k + i) o := by
  intro l
  induction l with
  | nil => intro k i o _ h; simp at h
  | cons o' r ih =>
    intro k i o hall h
    rcases i with _ | i
    · simp at h; subst h; exact hall.1
    · rw [show k + (i + 1) = k + 1 + i by omega]
      exact ih (k + 1) i o hall.2 (by simpa using h)
theorem wp_region_anyordG {id : Nat} {a0 : Act} {w : World} (C : World → Prop) (R : World → World → Prop) (T : Nat → World → Value → Prop) (hm : P.follows .mixedOrders = true)
    (hap : apartAll ops.toList = true) (hbk : backB ops.toList 0 = true)
    (hst : ∀ j w w' v, R w w' → T j w v → T j w' v) (hC : C { w with drawn := w.drawn + 1 })
    (hob : ObAllG P ops Q C R T a0 ops.toList 0)
    (hQ : ∀ vs w', C w' → (∀ i, i < ops.size → T i w' (vs i)) → Q .normal (fillL vs (fun _ => true) ops.toList 0 a0) w') : (Code.region id ops true).wp P Q a0 w := by
  refine wp_region_any hm (wpAny_of_inv (Inv := fun listed a w => listed.size = ops.size ∧ C w ∧ ∃ vs, a = fillL vs (fun j => listed.getD j false) ops.toList 0 a0 ∧ ∀ i, listed.getD i false = true → T i w (vs i)) ?_ ?_ _ _ _ _ ⟨by simp, hC, fun _ => undef, ?_, ?_⟩ ?_)
  · intro listed a w i ⟨hsz, hCw, vs, ha, hT⟩ hi
    obtain ⟨hun, o, ho, hdeps⟩ := mem_ready.1 hi
    have hil : i < ops.size := (Array.getElem?_eq_some_iff.1 ho).1
    have hol : ops.toList[i]? = some o := by rw [Array.getElem?_toList]; exact ho
    have hunf : listed.getD i false = false := by
      have h1 : i < listed.size := by omega
      simp [h1] at hun ⊢
      exact hun
    have hObi := hob.get ops.toList 0 i o hol
    rw [Nat.zero_add] at hObi
    obtain ⟨hg, hwp⟩ := hObi
    have hK : Known ops T a0 o a w := by
      refine ⟨fun s hs => by rw [ha]; exact fillL_other vs _ s _ 0 a0 hs, fun e he hbe oj s hoj hd hs => ?_⟩
      have hl := hdeps e he hbe
      have := fillL_at vs (fun j => listed.getD j false) s ops.toList 0 e.on oj a0 hap (by rw [Array.getElem?_toList]; exact hoj) hd (by rw [Nat.zero_add]; exact hl) hs
      rw [Nat.zero_add] at this
      rw [ha, this]
      exact hT e.on hl
    unfold wpOp
    rw [ho]
    have hw : Region.wanted o (yielded ops a.tmps) = true := hg.wanted hK
    simp only [hw, if_true]
    refine .inl (Oper.wp_mono (fun a' w' ⟨v, ha', hC', hR, hTv⟩ => ?_) (hwp a w hCw hK))
    refine ⟨by simpa using hsz, hC', upd vs i v, ?_, fun j hj => ?_⟩
    · have hs := fillL_step vs (fun j => listed.getD j false) v ops.toList 0 i o a0 hap hol (by rw [Nat.zero_add]; exact hunf)
      rw [Nat.zero_add] at hs
      rw [ha', ha, ← hs]
      refine fillL_congr _ 0 _ fun j _ => ⟨?_, fun _ => rfl⟩
      unfold upd
      by_cases hj : j = i
      · subst hj
        have h1 : j < listed.size := by omega
        simp [h1]
      · rw [if_neg hj]
        simp [Array.getD_eq_getD_getElem?, Ne.symm hj]
    · by_cases hji : j = i
      · subst hji; simpa [upd] using hTv
      · have h2 : listed.getD j false = true := by
          simpa [Array.getD_eq_getD_getElem?, Array.getElem?_setIfInBounds, Ne.symm hji] using hj
        have := hst j w w' _ hR (hT j h2)
        simpa [upd, hji] using this
  · intro listed a w ⟨hsz, hCw, vs, ha, hT⟩ h0
    have hall : ∀ n j, j < n → j < ops.size → listed.getD j false = true := by
      intro n
      induction n with
      | zero => intro j h; omega
      | succ n ih =>
        intro j hj hjs
        rcases Nat.lt_or_ge j n with h1 | h1
        · exact ih j h1 hjs
        obtain rfl : j = n := by omega
        cases hl : listed.getD j false with
        | true => rfl
        | false =>
          exfalso
          have hmem : j ∈ Region.ready .any ops listed := by
            refine mem_ready.2 ⟨?_, ops[j], Array.getElem?_eq_getElem hjs, fun e he hbe => ?_⟩
            · have h1 : j < listed.size := by omega
              simp [h1] at hl ⊢
              exact hl
            · have := backB_get ops.toList 0 j ops[j] hbk (by rw [Array.getElem?_toList]; exact Array.getElem?_eq_getElem hjs) e he hbe
              exact ih e.on (by omega) (by omega)
          rw [h0] at hmem
          cases hmem
    rw [ha, fillL_all vs _ ops.toList 0 a0 (fun j _ h => hall ops.size j (by simpa using h) (by simpa using h))]
    exact hQ vs w hCw fun i hi => hT i (hall ops.size i hi hi)
  · symm
    have : ∀ (l : List Oper) k, fillL (fun _ => undef) (fun j => (Array.replicate ops.size false).getD j false) l k a0 = a0 := by
      intro l
      induction l with
      | nil => intro k; rfl
      | cons o r ih =>
        intro k
        show fillL _ _ r (k + 1) (if (Array.replicate ops.size false).getD k false = true then _ else a0) = a0
        rw [if_neg (by simp [Array.getD_eq_getD_getElem?, Array.getElem?_replicate]; split <;> simp)]
        exact ih (k + 1)
    exact this _ _
  · intro i hi
    exfalso
    simp [Array.getD_eq_getD_getElem?, Array.getElem?_replicate] at hi
    split at hi <;> simp at hi
  · have : (Array.replicate ops.size false).toList.count false = ops.size := by simp
    omega
end
end Go.Proofs.Ytdhmcepnmbchkaa
