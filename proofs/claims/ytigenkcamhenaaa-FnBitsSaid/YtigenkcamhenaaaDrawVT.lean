/- What the regions of the drawn Values leave. Nothing that was there is written. -/
import Derived.Test.YtigenkcamhenaaaDrawBits
namespace Go.Proofs.Ytigenkcamhenaaa
open Go.RowKit
set_option linter.unusedVariables false
section
variable {w u u' : World} {S : Nat} {a : Option Addr} {len cap : Nat} {zs : List Int} {fs vs : List Nat}
def TFP (S V : Nat) (s : Value) : Nat → World → Value → Prop
  | 0, _, v => v = s
  | 1, _, v => ∃ (x y : Int) (g : Bool), v = .agg #[.int .i64 x, .int .i64 y, .bool g] ∧ I64P x ∧ I64P y
  | 2, _, v => v = .pointer (some ⟨S, 0, none⟩)
  | 3, _, v => ∃ (x y : Int) (g : Bool), v = .agg #[.int .i64 x, .int .i64 y, .bool g] ∧ I64P x ∧ I64P y
  | 4, _, v => ∃ (k n : Int), v = .agg #[.int .i64 k, .int .i64 n] ∧ I64P k ∧ I64P n
  | 5, _, v => v = s
  | 6, _, v => True
  | 7, _, v => True
  | _, _, v => ∃ x : Int, v = .int .i64 x ∧ I64P x
theorem TFP.kept {S V : Nat} {s : Value} : ∀ j w w' v, RV S w w' → TFP S V s j w v → TFP S V s j w' v
  | 0, _, _, _, _, h | 1, _, _, _, _, h | 2, _, _, _, _, h | 3, _, _, _, _, h | 4, _, _, _, _, h | 5, _, _, _, _, h | 6, _, _, _, _, h | 7, _, _, _, _, h => h
  | _ + 8, _, _, _, _, h => h
def TVR (S V : Nat) (s : Value) : Nat → World → Value → Prop
  | 0, _, v => ∃ (x y : Int) (g : Bool), v = .agg #[.int .i64 x, .int .i64 y, .bool g] ∧ I64P x ∧ I64P y
  | 1, _, v => v = .pointer (some ⟨S, 0, none⟩)
  | 2, _, v => ∃ (x y : Int) (g : Bool), v = .agg #[.int .i64 x, .int .i64 y, .bool g] ∧ I64P x ∧ I64P y
  | 3, _, v => ∃ (k n : Int), v = .agg #[.int .i64 k, .int .i64 n] ∧ I64P k ∧ I64P n
  | 4, _, v => True
  | 5, _, v => True
  | _, _, v => ∃ x : Int, v = .int .i64 x ∧ I64P x
theorem TVR.kept {S V : Nat} {s : Value} : ∀ j w w' v, RV S w w' → TVR S V s j w v → TVR S V s j w' v
  | 0, _, _, _, _, h | 1, _, _, _, _, h | 2, _, _, _, _, h | 3, _, _, _, _, h | 4, _, _, _, _, h | 5, _, _, _, _, h => h
  | _ + 6, _, _, _, _, h => h
end
end Go.Proofs.Ytigenkcamhenaaa
