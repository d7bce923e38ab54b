/- The next address that is not taken: the model's and the program's; two names alike. Nothing that was there is written. -/
import Derived.Test.YtpolpkheaibonaaSearch
import Derived.Test.YtpolpkheaibonaaLit
namespace Go.Proofs.Ytpolpkheaibonaa
open Go.RowKit
set_option linter.unusedVariables false

/-- Who has as many as there are has all of them. -/
theorem riseB_full {p : Int} {l : List Int} (h : riseB p l = true) (hp : -1 ≤ p) (hl : 251 - p ≤ (l.length : Int)) : ∀ v : Int, p < v → v ≤ 251 → v ∈ l := by
  induction l generalizing p with
  | nil => intro v h1 h2; simp at hl; omega
  | cons y r ih =>
    obtain ⟨h0, h1, h2⟩ := riseB_cons h
    have h3 := riseB_len h2 h0.2
    simp at hl
    have hy : y = p + 1 := by omega
    intro v hv hv'
    rcases Int.lt_or_le y v with h' | h'
    · exact List.mem_cons_of_mem _ (ih h2 (by omega) (by omega) v h' hv')
    · have : v = y := by omega
      subst this
      exact List.mem_cons_self
/-- One that is in stays: nothing is put in. -/
theorem takeI_in {p : Int} {l : List Int} {x : Int} (h : riseB p l = true) (hx : x ∈ l) : takeI l x = l := by
  induction l generalizing p with
  | nil => cases hx
  | cons y r ih =>
    obtain ⟨h0, h1, h2⟩ := riseB_cons h
    unfold takeI
    rcases List.mem_cons.1 hx with rfl | hx
    · rw [if_neg (by omega), if_pos rfl]
    · have := (riseB_mem h2 x hx).1
      rw [if_pos this, ih h2 hx]
theorem takeI_out {l : List Int} {x : Int} (hx : x ∉ l) : takeI l x = l.take (cntI l x) ++ x :: l.drop (cntI l x) := by
  rw [takeI_form, if_neg]
  intro h
  exact hx (List.mem_of_getElem? h)
theorem takeI_len (l : List Int) (x : Int) : l.length ≤ (takeI l x).length ∧ (takeI l x).length ≤ l.length + 1 := by
  induction l with
  | nil => simp [takeI]
  | cons y r ih =>
    unfold takeI
    split
    · simp; omega
    split
    · simp
    · simp
theorem nextF_step (l : List Int) (f : Nat) (a : Int) : nextF l (f + 1) a = if (a + 1) % 252 ∈ l then nextF l f ((a + 1) % 252) else (a + 1) % 252 := rfl
theorem beq_flip (a b : Int) : (a == b) = decide (b = a) := by
  rcases Decidable.em (a = b) with h | h
  · subst h; simp
  · rw [decide_eq_false (fun e => h e.symm)]; simpa using h
/-- What nextFree answers. -/
def freeI (l : List Int) (a : Int) : Int := if 251 < l.length then 254 else nextI l a

theorem if8_no {α : Type} {A B : α} {c0 c1 c2 c3 c4 c5 c6 c7 : Prop} [Decidable c0] [Decidable c1] [Decidable c2] [Decidable c3] [Decidable c4] [Decidable c5] [Decidable c6] [Decidable c7] (h : ¬ (c0 ∧ c1 ∧ c2 ∧ c3 ∧ c4 ∧ c5 ∧ c6 ∧ c7)) : (if c0 then (if c1 then (if c2 then (if c3 then (if c4 then (if c5 then (if c6 then (if c7 then A else B) else B) else B) else B) else B) else B) else B) else B) = B := by
  repeat' split
  all_goals first | rfl | exact absurd ⟨by assumption, by assumption, by assumption, by assumption, by assumption, by assumption, by assumption, by assumption⟩ h
set_option maxRecDepth 100000 in
theorem wpList_eql_nm {ops : Array Oper} {rest : List Oper} {o : Oper} {a : Act} {w : World} {Q : Exit → Act → World → Prop} (hgd : Region.wanted o (yielded ops a.tmps) = true) (x y : Operand) (tt : TypeId)
    (ho : o.op = .binOp .eql 33 x y tt) (n0 n1 n2 n3 n4 n5 n6 m0 m1 m2 m3 m4 m5 m6 : Int) (n7 m7 : Bool)
    (hx : a.eval x = .agg #[.int .i64 n0, .int .i64 n1, .int .i64 n2, .int .i64 n3, .int .i64 n4, .int .i64 n5, .int .i64 n6, .bool n7]) (hy : a.eval y = .agg #[.int .i64 m0, .int .i64 m1, .int .i64 m2, .int .i64 m3, .int .i64 m4, .int .i64 m5, .int .i64 m6, .bool m7])
    (b : Bool) (hb : b = decide (n0 = m0 ∧ n1 = m1 ∧ n2 = m2 ∧ n3 = m3 ∧ n4 = m4 ∧ n5 = m5 ∧ n6 = m6 ∧ n7 = m7))
    (h : wpList Try.prog ops Q rest (a.put o.dst (.bool b)) w) : wpList Try.prog ops Q (o :: rest) a w :=
  BigFrame.wpList_want hgd fun K hK => by
    have hk := hK _ _ h
    unfold Oper.wp execOp
    rw [ho]
    dsimp only
    rw [hx, hy]
    cases b
    · have hn : ¬ (n0 = m0 ∧ n1 = m1 ∧ n2 = m2 ∧ n3 = m3 ∧ n4 = m4 ∧ n5 = m5 ∧ n6 = m6 ∧ n7 = m7) := fun q => by
        rw [decide_eq_true q] at hb
        cases hb
      simp [go_sem]
      rw [if8_no hn]
      exact hk
    · have hn : n0 = m0 ∧ n1 = m1 ∧ n2 = m2 ∧ n3 = m3 ∧ n4 = m4 ∧ n5 = m5 ∧ n6 = m6 ∧ n7 = m7 := of_decide_eq_true hb.symm
      obtain ⟨rfl, rfl, rfl, rfl, rfl, rfl, rfl, rfl⟩ := hn
      simp [go_sem]
      exact hk
end Go.Proofs.Ytpolpkheaibonaa
