/- A number more among numbers of the call's own: slices.Insert. No other memory is written. -/
import Derived.Test.YtpolpkheaibonaaClone
import Derived.Test.YtpolpkheaibonaaNameImpl
import Derived.Lib.Overlaps
import Derived.Lib.AppendZerosOnto
import Derived.Deep.RegionLaw
import Derived.Laws.CopyOwn
import Derived.Test.YtpolpkheaibonaaLit
namespace Go.Proofs.Ytpolpkheaibonaa
open Go.RowKit Go.Joins
set_option linter.unusedVariables false

/-- What two copies leave: all from place k on one place on, and x there. -/
theorem splice_two {α : Type} (R C : List α) (N k : Nat) (x : α) (hk : k < N) (hR : N < R.length) (hC : C.length = N) (hRC : R.take k = C.take k) :
    (splice (splice R (k + 1) (C.drop k)) k [x]).take (N + 1) = C.take k ++ x :: C.drop k := by
  have e : N + 1 = (C.take k ++ x :: C.drop k).length := by simp; omega
  have h1 : splice R (k + 1) (C.drop k) = R.take (k + 1) ++ (C.drop k ++ R.drop (N + 1)) := by
    unfold splice
    rw [show k + 1 + (C.drop k).length = N + 1 by rw [List.length_drop]; omega]
  have h2 : splice (splice R (k + 1) (C.drop k)) k [x] = (C.take k ++ x :: C.drop k) ++ R.drop (N + 1) := by
    rw [h1]
    unfold splice
    have l1 : (R.take (k + 1)).length = k + 1 := by rw [List.length_take]; omega
    rw [List.take_append_of_le_length (by omega), List.take_take, Nat.min_eq_left (by omega), hRC]
    rw [show k + [x].length = (R.take (k + 1)).length by rw [l1]; rfl, List.drop_left]
    simp
  rw [h2, e]
  exact List.take_left' rfl
theorem splice_two' {α : Type} (R C : List α) (N k : Nat) (x : α) (hk : k < N) (hR : N < R.length) (hC : C.length = N) (hRC : R.take k = C.take k) :
    (splice (splice R k [x]) (k + 1) (C.drop k)).take (N + 1) = C.take k ++ x :: C.drop k := by
  have e : N + 1 = (C.take k ++ x :: C.drop k).length := by simp; omega
  have h1 : splice R k [x] = (C.take k ++ [x]) ++ R.drop (k + 1) := by
    unfold splice
    rw [hRC]
    simp
  have l1 : (C.take k ++ [x]).length = k + 1 := by simp; omega
  have h2 : splice (splice R k [x]) (k + 1) (C.drop k) = (C.take k ++ x :: C.drop k) ++ ((C.take k ++ [x]) ++ R.drop (k + 1)).drop (k + 1 + (C.drop k).length) := by
    rw [h1]
    conv => lhs; unfold splice
    rw [List.take_left' l1]
    simp
  rw [h2, e]
  exact List.take_left' rfl

section
variable {P : Program} {ops : Array Oper} {rest : List Oper} {o : Oper} {a : Act} {w : World} {Q : Exit → Act → World → Prop}
/-- copy into a row that is known whole, as one step of a region that draws its order. -/
theorem step_copy_h {K : Act → World → Prop} {E : Prop} (hgd : o.guard = none) (d s : Operand) (dT sT : TypeId) (ho : o.op = .call { callee := .builtin .copy, args := #[d, s], argTypes := #[dT, sT] })
    (elem : TypeId) (hu : P.underlying dT = some (.slice elem)) (hsz : (P.info? elem).map (·.size) = some 1) (dp sp : Option Addr) (dLen dCap sLen sCap : Nat) (hd : a.eval d = .slice dp dLen dCap) (hs : a.eval s = .slice sp sLen sCap)
    (g off : Nat) (cur : List Value) (t : TypeId) (hg : w.heap[g]? = some (.cells cur.toArray t (0, 0))) (cs : List Value) (hn : cs.length = Nat.min sLen dLen)
    (hpos : 0 < cs.length → dp = some ⟨g, off, none⟩ ∧ ∃ ad, sp = some ad ∧ ∀ j v, cs[j]? = some v → w.cell? (ad.add j) = some v) (hfit : off + cs.length ≤ cur.length) (h1 : ∀ v ∈ cs, v.oneCell' = true)
    (h : ∀ w', w'.heap[g]? = some (.cells (splice cur off cs).toArray t (0, 0)) → Out g (g + 1) w w' → K (a.put o.dst (goInt cs.length)) w') :
    if Region.wanted o (yielded ops a.tmps) = true then Oper.wp P o a w K Q else E := by
  have hw : Region.wanted o (yielded ops a.tmps) = true := by simp [Region.wanted, hgd]
  rw [if_pos hw]
  by_cases h0 : cs.length = 0
  · obtain rfl : cs = [] := List.eq_nil_of_length_eq_zero h0
    have hrun := run_copy_none (P := P) w dT sT o.type elem dp sp dLen dCap sLen sCap hu hsz (by simpa using hn.symm)
    unfold Oper.wp
    simp [execOp, ho, resolve, invoke, builtin, hd, hs, hrun, Result.andThen]
    exact h w (by simpa [splice] using hg) (Out.refl _ _ _)
  · obtain ⟨rfl, ad, rfl, hsrc⟩ := hpos (by omega)
    have hrun := run_copy_row (P := P) w dT sT o.type elem g off dLen dCap ad sLen sCap cur.toArray t cs hu hsz hg hn hsrc (by simpa using hfit) h1
    unfold Oper.wp
    simp [execOp, ho, resolve, invoke, builtin, hd, hs, hrun, Result.andThen]
    exact h _ (by simpa [splice] using setRow_heap w g _ _ t _ hg) (Out.of_setRow w g _)
theorem wpList_copy_h (hgd : o.guard = none) (d s : Operand) (dT sT : TypeId) (ho : o.op = .call { callee := .builtin .copy, args := #[d, s], argTypes := #[dT, sT] })
    (elem : TypeId) (hu : P.underlying dT = some (.slice elem)) (hsz : (P.info? elem).map (·.size) = some 1) (dp sp : Option Addr) (dLen dCap sLen sCap : Nat) (hd : a.eval d = .slice dp dLen dCap) (hs : a.eval s = .slice sp sLen sCap)
    (g off : Nat) (cur : List Value) (t : TypeId) (hg : w.heap[g]? = some (.cells cur.toArray t (0, 0))) (cs : List Value) (hn : cs.length = Nat.min sLen dLen)
    (hpos : 0 < cs.length → dp = some ⟨g, off, none⟩ ∧ ∃ ad, sp = some ad ∧ ∀ j v, cs[j]? = some v → w.cell? (ad.add j) = some v) (hfit : off + cs.length ≤ cur.length) (h1 : ∀ v ∈ cs, v.oneCell' = true)
    (h : ∀ w', w'.heap[g]? = some (.cells (splice cur off cs).toArray t (0, 0)) → Out g (g + 1) w w' → wpList P ops Q rest (a.put o.dst (goInt cs.length)) w') : wpList P ops Q (o :: rest) a w :=
  wpList_plain hgd fun K hK => by
    have hw : Region.wanted o (yielded ops a.tmps) = true := by simp [Region.wanted, hgd]
    have := step_copy_h (E := False) (K := K) (Q := Q) (ops := ops) hgd d s dT sT ho elem hu hsz dp sp dLen dCap sLen sCap hd hs g off cur t hg cs hn hpos hfit h1 fun w' h1 h2 => hK _ _ (h w' h1 h2)
    rwa [if_pos hw] at this
/-- append of so many zeros where there is no room: a new row. -/
theorem wpList_append_zeros_h (hgd : o.guard = none) (s x : Operand) (t tn : TypeId) (ho : o.op = .call { callee := .builtin .append, args := #[s, x], argTypes := #[t, tn] })
    (e : TypeId) (i : TypeInfo) (kn : IntKind) (ht : P.underlying t = some (.slice e)) (htn : P.underlying tn = some (.int kn)) (hi : P.info? e = some i) (hz : i.zero = some (.int .i64 0)) (hsz : i.size = 1) (hby : i.bytes = 8)
    (g off n c : Nat) (hs : a.eval s = .slice (some ⟨g, off, none⟩) n c) (k : Nat) (hx : a.eval x = .int .i64 (k : Int)) (olds : List Value) (hl : olds.length = n) (hold : ∀ j v, olds[j]? = some v → w.cell? ⟨g, off + j, none⟩ = some v)
    (h0 : 0 < k) (hg : c < n + k) (hb : (n + k) * 8 ≤ 140737488355328)
    (h : ∀ w' R G (row : List Value), w.heap.size = R → w'.heap[R]? = some (.cells row.toArray e (0, 0)) → Below w.heap.size w w' → n + k ≤ G → G ≤ maxLen → row.length = G → row.take n = olds →
      wpList P ops Q rest (a.put o.dst (.slice (some ⟨R, 0, none⟩) (n + k) G)) w') : wpList P ops Q (o :: rest) a w := by
  have hf : (Builtin.firstCells i.size n (.slice (some ⟨g, off, none⟩) n c)).run P w.drew = .ok olds.toArray w.drew := by
    rw [hsz]
    exact run_firstCells_some w.drew 1 n ⟨g, off, none⟩ n c olds (by omega) (fun j v hj => by
      have hadd : (⟨g, off, none⟩ : Addr).add j = ⟨g, off + j, none⟩ := by unfold Addr.add; split <;> simp_all
      rw [hadd]
      exact hold j v hj)
  have hr := Lib.run_append_grow_zeros (P := P) w t tn o.type e i _ .i64 kn ht htn hi hz (some ⟨g, off, none⟩) n c olds hf k h0 (by omega) hg (by omega) (by rw [hby]; omega) (by rw [hby]; exact growslice_fits hg hb)
  have hge := grownCap_ge w (n + k) c e
  have hle := grownCap_le_maxLen w (n + k) c e (by unfold maxLen; omega)
  refine Lib.wpList_append_run w hgd s x t tn ho _ _ hs hx _ _ hr ?_
  refine h _ _ (grownCap w (n + k) c e) (olds ++ (Builtin.zeroCells (Value.int .i64 0).cells k).toList ++ (Builtin.zeroCells (Value.int .i64 0).cells (grownCap w (n + k) c e - (n + k))).toList) rfl ?_ ?_ hge hle ?_ ?_
  · rw [show (olds ++ (Builtin.zeroCells (Value.int .i64 0).cells k).toList ++ (Builtin.zeroCells (Value.int .i64 0).cells (grownCap w (n + k) c e - (n + k))).toList).toArray = olds.toArray ++ Builtin.zeroCells (Value.int .i64 0).cells k ++ Builtin.zeroCells (Value.int .i64 0).cells (grownCap w (n + k) c e - (n + k)) from by apply Array.toList_inj.1; simp]
    exact heap_alloc_new w.drew _
  · exact (Below.refl _ _).drew.alloc (Nat.le_refl _) _
  · simp [Builtin.zeroCells, Value.cells]
    omega
  · rw [List.append_assoc, List.take_left' hl]
end
/-- A row that is known whole, as numbers of the call's own. -/
theorem NumsNew.of_row {base g : Nat} {w : World} {cur : List Value} {T : TypeId} {L : List Int} (hg : w.heap[g]? = some (.cells cur.toArray T (0, 0))) (ht : cur.take L.length = ncells L) (hb : base ≤ g) : NumsNew base w.heap.size w (some ⟨g, 0, none⟩) L := by
  have hlt := heap_lt hg
  refine .inr ⟨g, 0, rfl, hb, hlt, hlt, fun j hj => frozen_of_row w g (0 + j) _ _ hg, fun i x hx => ?_⟩
  have hi : i < L.length := (List.getElem?_eq_some_iff.1 hx).1
  rw [Nat.zero_add, cell_of_row w g i _ _ (0, 0) hg]
  have h1 := ncells_at L i x hx
  rw [← ht, List.getElem?_take, if_pos hi] at h1
  simpa using h1
end Go.Proofs.Ytpolpkheaibonaa
