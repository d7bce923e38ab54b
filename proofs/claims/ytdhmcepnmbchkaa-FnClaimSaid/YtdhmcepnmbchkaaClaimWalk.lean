/- What the test of FnClaim knows of its values, and of the answers that they are. -/
import Derived.Test.YtdhmcepnmbchkaaClaimHear3
import Derived.Test.YtdhmcepnmbchkaaClaimTick2
import Derived.Test.YtdhmcepnmbchkaaClaimCan
import Derived.Test.YtdhmcepnmbchkaaClaimNew
import Derived.Test.YtdhmcepnmbchkaaAnyOrdG
import Derived.Test.YtdhmcepnmbchkaaNameLess3
namespace Go.Proofs.Ytdhmcepnmbchkaa
open Go.RowKit
set_option linter.unusedVariables false
theorem hearO_right {c : Cl} {s : Int} {m : Nm} {D : Cl} {S : Bool} {C : Int} (h : hearO c s m = (D, S, C)) (h0 : C = 0) : clB D = true := by
  unfold hearO at h
  split at h
  · rename_i hc
    injection h with h1 h2
    rw [← h1]
    exact hearC_right hc.1
  · injection h with h1 h2
    injection h2 with h2 h3
    omega
theorem tickO_right {c : Cl} {D : Cl} {C : Int} (h : tickO c = (D, C)) (h0 : C = 0) : clB D = true := by
  unfold tickO at h
  split at h
  · rename_i hc
    injection h with h1 h2
    rw [← h1]
    exact tickC_right hc
  · injection h with h1 h2
    omega
theorem new_form (n : Nm) (want : Int) : ∃ (m : Nm) (ad st lf : Int) (s : Bool) (c : Int), clNewV n want = clOutV m ad st lf (.slice none 0 0) s c ∧ (c = 0 → clB ⟨m, ad, st, lf, []⟩ = true) := by
  unfold clNewV
  split
  · rename_i h
    rw [Bool.and_eq_true] at h
    have hw := inB_of h.2
    exact ⟨n, want, 1, 250, true, 0, rfl, fun _ => clB_mk h.1 rfl (.inl ⟨rfl, hw, by show (1 : Int) ≤ 250; decide, by show (250 : Int) ≤ 250; decide⟩)⟩
  · exact ⟨⟨0, 0, 0, 0, 0, 0, 0, false⟩, 0, 0, 0, false, 1, rfl, fun h => by omega⟩
theorem can_form (c : Cl) : ∃ (x : Int) (s : ByteArray), clCanV c = .agg #[.int .i64 x, .string s] := by
  unfold clCanV
  split <;> exact ⟨_, _, rfl⟩
theorem hearO_ok {c : Cl} {s : Int} {m : Nm} {D : Cl} {S : Bool} (h : hearO c s m = (D, S, 0)) : clB c = true ∧ okB m = true ∧ hearC c s m (sameN c.n m) = (D, S) := by
  unfold hearO at h
  split at h
  · rename_i hc
    injection h with h1 h2
    injection h2 with h2 h3
    exact ⟨hc.1, hc.2.1, by rw [← h1, ← h2]⟩
  · injection h with h1 h2
    injection h2 with h2 h3
    omega
theorem ticksC_succ : ∀ (k : Nat) (c : Cl), ticksC (k + 1) c = tickC (ticksC k c)
  | 0, _ => rfl
  | k + 1, c => ticksC_succ k (tickC c)
theorem ticks_right : ∀ (k : Nat) {c : Cl}, clB c = true → clB (ticksC k c) = true
  | 0, _, h => h
  | k + 1, _, h => ticks_right k (tickC_right h)
theorem less_form {n m : Nm} (h1 : okB n = true) (h2 : okB m = true) : nmLessB n m = decide (nmN n < nmN m) := by
  unfold nmLessB
  rw [h1, h2]
  rfl
theorem left_nat {c : Cl} (h : clB c = true) : 0 ≤ c.lf := by
  rcases stateB_of (clB_of h).2.2.2 with ⟨_, _, h1, _⟩ | ⟨_, _, h1⟩ | ⟨_, _, h1⟩ <;> omega
def TCl (V8 V5 V7 V9 V11 V12 WN KV : Value) (src want : Int) (rB : Bool) (H1 H2 : World → Value → Prop) : Nat → World → Value → Prop
  | 0, _, v => v = V8
  | 1, _, v => v = V5
  | 2, _, v => v = .int .i64 src
  | 3, _, v => v = V7
  | 4, w, v => H1 w v
  | 5, _, v => v = .bool true
  | 6, _, v => v = .bool false
  | 7, _, v => v = .bool false
  | 8, _, v => v = V9
  | 9, _, v => v = .int .i64 want
  | 10, _, v => v = WN
  | 11, _, v => v = V9
  | 12, _, v => v = .int .i64 want
  | 13, _, v => v = WN
  | 14, _, v => v = .bool true
  | 15, _, v => v = .bool false
  | 16, _, v => v = .bool false
  | 17, _, v => v = .bool false
  | 18, _, v => v = V11
  | 19, w, v => H2 w v
  | 20, _, v => v = V11
  | 21, w, v => H2 w v
  | 22, _, v => v = .bool true
  | 23, _, v => v = .bool false
  | 24, _, v => v = .bool false
  | 25, _, v => v = .bool false
  | 26, _, v => v = V12
  | 27, _, v => v = KV
  | 28, _, v => v = V12
  | 29, _, v => v = KV
  | 30, _, v => v = .bool false
  | 31, _, v => v = .bool false
  | 32, _, v => v = .bool false
  | 33, _, v => v = V5
  | 34, _, v => v = .bool rB
  | 35, _, v => v = V5
  | 36, _, v => v = .bool rB
  | 37, _, v => v = .bool false
  | 38, _, v => v = .bool false
  | _ + 39, _, _ => True
theorem TCl.kept {V8 V5 V7 V9 V11 V12 WN KV : Value} {src want : Int} {rB : Bool} {H1 H2 : World → Value → Prop} (h1 : ∀ w w' v, Below w.heap.size w w' → H1 w v → H1 w' v) (h2 : ∀ w w' v, Below w.heap.size w w' → H2 w v → H2 w' v) : ∀ j w w' v, Below w.heap.size w w' → TCl V8 V5 V7 V9 V11 V12 WN KV src want rB H1 H2 j w v → TCl V8 V5 V7 V9 V11 V12 WN KV src want rB H1 H2 j w' v
  | 0, _, _, _, _, h => h
  | 1, _, _, _, _, h => h
  | 2, _, _, _, _, h => h
  | 3, _, _, _, _, h => h
  | 4, w, w', v, hR, h => h1 w w' v hR h
  | 5, _, _, _, _, h => h
  | 6, _, _, _, _, h => h
  | 7, _, _, _, _, h => h
  | 8, _, _, _, _, h => h
  | 9, _, _, _, _, h => h
  | 10, _, _, _, _, h => h
  | 11, _, _, _, _, h => h
  | 12, _, _, _, _, h => h
  | 13, _, _, _, _, h => h
  | 14, _, _, _, _, h => h
  | 15, _, _, _, _, h => h
  | 16, _, _, _, _, h => h
  | 17, _, _, _, _, h => h
  | 18, _, _, _, _, h => h
  | 19, w, w', v, hR, h => h2 w w' v hR h
  | 20, _, _, _, _, h => h
  | 21, w, w', v, hR, h => h2 w w' v hR h
  | 22, _, _, _, _, h => h
  | 23, _, _, _, _, h => h
  | 24, _, _, _, _, h => h
  | 25, _, _, _, _, h => h
  | 26, _, _, _, _, h => h
  | 27, _, _, _, _, h => h
  | 28, _, _, _, _, h => h
  | 29, _, _, _, _, h => h
  | 30, _, _, _, _, h => h
  | 31, _, _, _, _, h => h
  | 32, _, _, _, _, h => h
  | 33, _, _, _, _, h => h
  | 34, _, _, _, _, h => h
  | 35, _, _, _, _, h => h
  | 36, _, _, _, _, h => h
  | 37, _, _, _, _, h => h
  | 38, _, _, _, _, h => h
  | _ + 39, _, _, _, _, _ => trivial
end Go.Proofs.Ytdhmcepnmbchkaa
