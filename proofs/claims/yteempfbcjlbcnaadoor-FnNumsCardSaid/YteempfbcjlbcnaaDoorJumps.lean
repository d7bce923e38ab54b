/- A law for a piece of code with several labels: what holds at every jump to each of them, and a number that every way from a label to a further jump lowers. -/
import Derived.ScopeJumps
import Derived.WalkMore
import Derived.WalkKit
namespace Go.Proofs.YteempfbcjlbcnaaDoor
open Go.RowKit

/-- As Q; by a goto: what is to hold at its label. -/
def Jumps (J : Nat → Act → World → Prop) (Q : Exit → Act → World → Prop) : Exit → Act → World → Prop := fun e x v =>
  match e with
  | .goto l => J l x v
  | other => Q other x v

section
variable {P : Program} {x : Act} {v : World} {Q : Exit → Act → World → Prop} {J : Nat → Act → World → Prop}
theorem Jumps_goto (l : Nat) : Jumps J Q (.goto l) x v = J l x v := rfl
theorem Jumps_normal : Jumps J Q .normal x v = Q .normal x v := rfl
theorem Jumps_ret : Jumps J Q .ret x v = Q .ret x v := rfl
theorem Jumps_panic (ch : List PanicEntry) : Jumps J Q (.panic ch) x v = Q (.panic ch) x v := rfl

theorem wp_scope_labels {body : Code} (J : Nat → Act → World → Prop) (size : Nat → Act → World → Nat)
    (start : body.wp P (Jumps J Q) x v)
    (onward : ∀ l y u, J l y u → ∃ rest, findLabel body l = some rest ∧ rest.wp P (Jumps (fun l' y' u' => J l' y' u' ∧ size l' y' u' < size l y u) Q) y u) : (Code.scope body).wp P Q x v := by
  intro fr items stack
  have found : ∀ {l : Nat} {rest : Code}, findLabel body l = some rest → gotoIn l (.inScope body :: items) = some (.code rest :: .inScope body :: items) := by
    intro l rest h
    simp [gotoIn, h]
  have from_label : ∀ n, ∀ l y u rest, size l y u ≤ n → J l y u → findLabel body l = some rest →
      ∃ e y' u', Q e y' u' ∧ Arrives P (lone (fr.at y (.code rest :: .inScope body :: items)) stack u) fr items stack e y' u' := by
    intro n
    induction n with
    | zero =>
      intro l y u rest hn hj hf
      obtain ⟨rest', hf', hw⟩ := onward l y u hj
      obtain rfl : rest = rest' := by rw [hf] at hf'; exact Option.some.inj hf'
      obtain ⟨e, y₁, u₁, hq, harr⟩ := hw fr (.inScope body :: items) stack
      match e, hq, harr with
      | .normal, hq, harr => exact ⟨.normal, y₁, u₁, hq, Steps.trans harr (.one step_inScope)⟩
      | .exit id, hq, harr => exact ⟨.exit id, y₁, u₁, hq, fun k' hk => harr k' (by simp [exitTo, hk])⟩
      | .goto l', hq, harr => exact absurd hq.2 (by omega)
      | .ret, hq, harr => exact ⟨_, y₁, u₁, hq, harr⟩
      | .panic ch, hq, harr => exact ⟨_, y₁, u₁, hq, harr⟩
      | .outgrown, hq, harr => exact ⟨_, y₁, u₁, hq, harr⟩
    | succ n ih =>
      intro l y u rest hn hj hf
      obtain ⟨rest', hf', hw⟩ := onward l y u hj
      obtain rfl : rest = rest' := by rw [hf] at hf'; exact Option.some.inj hf'
      obtain ⟨e, y₁, u₁, hq, harr⟩ := hw fr (.inScope body :: items) stack
      match e, hq, harr with
      | .normal, hq, harr => exact ⟨.normal, y₁, u₁, hq, Steps.trans harr (.one step_inScope)⟩
      | .exit id, hq, harr => exact ⟨.exit id, y₁, u₁, hq, fun k' hk => harr k' (by simp [exitTo, hk])⟩
      | .goto l', hq, harr =>
        obtain ⟨rest₂, hf₂, _⟩ := onward l' y₁ u₁ hq.1
        obtain ⟨e₂, y₂, u₂, hq₂, harr₂⟩ := ih l' y₁ u₁ rest₂ (by have := hq.2; omega) hq.1 hf₂
        exact ⟨e₂, y₂, u₂, hq₂, .of_steps (harr _ (found hf₂)) harr₂⟩
      | .ret, hq, harr => exact ⟨_, y₁, u₁, hq, harr⟩
      | .panic ch, hq, harr => exact ⟨_, y₁, u₁, hq, harr⟩
      | .outgrown, hq, harr => exact ⟨_, y₁, u₁, hq, harr⟩
  obtain ⟨e, y₁, u₁, hq, harr⟩ := start fr (.inScope body :: items) stack
  match e, hq, harr with
  | .normal, hq, harr => exact ⟨.normal, y₁, u₁, hq, .head step_scope (Steps.trans harr (.one step_inScope))⟩
  | .exit id, hq, harr => exact ⟨.exit id, y₁, u₁, hq, fun k' hk => .head step_scope (harr k' (by simp [exitTo, hk]))⟩
  | .goto l', hq, harr =>
    obtain ⟨rest₂, hf₂, _⟩ := onward l' y₁ u₁ hq
    obtain ⟨e₂, y₂, u₂, hq₂, harr₂⟩ := from_label _ l' y₁ u₁ rest₂ (Nat.le_refl _) hq hf₂
    exact ⟨e₂, y₂, u₂, hq₂, .of_steps (.head step_scope (harr _ (found hf₂))) harr₂⟩
  | .ret, hq, harr => exact ⟨_, y₁, u₁, hq, .of_steps (.one step_scope) harr⟩
  | .panic ch, hq, harr => exact ⟨_, y₁, u₁, hq, .of_steps (.one step_scope) harr⟩
  | .outgrown, hq, harr => exact ⟨_, y₁, u₁, hq, .of_steps (.one step_scope) harr⟩
end
end Go.Proofs.YteempfbcjlbcnaaDoor
