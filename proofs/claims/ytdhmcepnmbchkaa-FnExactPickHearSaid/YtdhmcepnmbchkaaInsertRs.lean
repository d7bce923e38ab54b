/- One struct more in a row of the call's own: slices.Insert. No other memory is written. -/
import Derived.Test.YtdhmcepnmbchkaaCloneRs
import Derived.Lib.Overlaps
import Derived.Lib.AppendZerosOnto
import Derived.Deep.RegionLaw
import Derived.Laws.CopyOwn
namespace Go.Proofs.Ytdhmcepnmbchkaa
open Go.RowKit Go.Joins
set_option linter.unusedVariables false

theorem splice_blk {α : Type} (R C X : List α) (M K m : Nat) (hK : K ≤ M) (hR : M + m ≤ R.length) (hC : C.length = M) (hX : X.length = m) (hRC : R.take K = C.take K) :
    (splice (splice R (K + m) (C.drop K)) K X).take (M + m) = C.take K ++ (X ++ C.drop K) := by
  have e : M + m = (C.take K ++ (X ++ C.drop K)).length := by simp; omega
  have h1 : splice R (K + m) (C.drop K) = R.take (K + m) ++ (C.drop K ++ R.drop (M + m)) := by
    unfold splice
    rw [show K + m + (C.drop K).length = M + m by rw [List.length_drop]; omega]
  have h2 : splice (splice R (K + m) (C.drop K)) K X = (C.take K ++ (X ++ C.drop K)) ++ R.drop (M + m) := by
    rw [h1]
    unfold splice
    have l1 : (R.take (K + m)).length = K + m := by rw [List.length_take]; omega
    rw [List.take_append_of_le_length (by omega), List.take_take, Nat.min_eq_left (by omega), hRC]
    rw [show K + X.length = (R.take (K + m)).length by rw [l1, hX], List.drop_left]
    simp
  rw [h2, e]
  exact List.take_left' rfl
theorem splice_blk' {α : Type} (R C X : List α) (M K m : Nat) (hK : K ≤ M) (hR : M + m ≤ R.length) (hC : C.length = M) (hX : X.length = m) (hRC : R.take K = C.take K) :
    (splice (splice R K X) (K + m) (C.drop K)).take (M + m) = C.take K ++ (X ++ C.drop K) := by
  have e : M + m = (C.take K ++ (X ++ C.drop K)).length := by simp; omega
  have h1 : splice R K X = (C.take K ++ X) ++ R.drop (K + m) := by
    unfold splice
    rw [hRC, hX, List.append_assoc]
  have l1 : (C.take K ++ X).length = K + m := by simp; omega
  have h2 : splice (splice R K X) (K + m) (C.drop K) = (C.take K ++ (X ++ C.drop K)) ++ ((C.take K ++ X) ++ R.drop (K + m)).drop (K + m + (C.drop K).length) := by
    rw [h1]
    conv => lhs; unfold splice
    rw [List.take_left' l1]
    simp
  rw [h2, e]
  exact List.take_left' rfl
section
variable {P : Program} {ops : Array Oper} {rest : List Oper} {o : Oper} {a : Act} {w : World} {Q : Exit → Act → World → Prop}
theorem run_copy_rowS (w : World) (dT sT ty elem : TypeId) (g o dLen dCap : Nat) (a : Addr) (sLen sCap size : Nat) (cur : Array Value) (t : TypeId) (cs : List Value)
    (hu : P.underlying dT = some (.slice elem)) (hs : (P.info? elem).map (·.size) = some size)
    (hg : w.heap[g]? = some (.cells cur t (0, 0))) (hn : cs.length = Nat.min sLen dLen * size)
    (hsrc : ∀ j v, cs[j]? = some v → w.cell? (a.add j) = some v) (hfit : o + cs.length ≤ cur.size) (h1 : ∀ v ∈ cs, v.oneCell' = true) :
    (Builtin.copy_ #[dT, sT] ty #[.slice (some ⟨g, o, none⟩) dLen dCap, .slice (some a) sLen sCap]).run P w =
      .ok (goInt (Nat.min sLen dLen)) (w.setRow g (cur.toList.take o ++ cs ++ cur.toList.drop (o + cs.length)).toArray) := by
  have hl := run_loadCells_list (P := P) w a cs hsrc
  have hst := run_storeCells_at P g o t cs 0 cur w hg (by simpa using hfit) h1
  rw [hn] at hl
  cases hq : P.info? elem with
  | none => simp [hq] at hs
  | some i =>
    have hi : i.size = size := by simpa [hq] using hs
    simp [Builtin.copy_, run_underlying hu, Builtin.lenOf, Builtin.firstCells, sizeOf, typeInfo, hq, hi, hl, hst]
theorem step_copy_s {K : Act → World → Prop} {E : Prop} (hgd : o.guard = none) (d s : Operand) (dT sT : TypeId) (ho : o.op = .call { callee := .builtin .copy, args := #[d, s], argTypes := #[dT, sT] })
    (elem : TypeId) (size : Nat) (hu : P.underlying dT = some (.slice elem)) (hsz : (P.info? elem).map (·.size) = some size) (dLen dCap sLen sCap g off : Nat) (ad : Addr) (hd : a.eval d = .slice (some ⟨g, off, none⟩) dLen dCap) (hs : a.eval s = .slice (some ad) sLen sCap)
    (cur : List Value) (t : TypeId) (hg : w.heap[g]? = some (.cells cur.toArray t (0, 0))) (cs : List Value) (hn : cs.length = Nat.min sLen dLen * size)
    (hsrc : ∀ j v, cs[j]? = some v → w.cell? (ad.add j) = some v) (hfit : off + cs.length ≤ cur.length) (h1 : ∀ v ∈ cs, v.oneCell' = true)
    (h : ∀ w', w'.heap[g]? = some (.cells (splice cur off cs).toArray t (0, 0)) → Out g (g + 1) w w' → K (a.put o.dst (goInt (Nat.min sLen dLen))) w') :
    if Region.wanted o (yielded ops a.tmps) = true then Oper.wp P o a w K Q else E := by
  have hw : Region.wanted o (yielded ops a.tmps) = true := by simp [Region.wanted, hgd]
  rw [if_pos hw]
  have hrun := run_copy_rowS (P := P) w dT sT o.type elem g off dLen dCap ad sLen sCap size cur.toArray t cs hu hsz hg hn hsrc (by simpa using hfit) h1
  unfold Oper.wp
  simp [execOp, ho, resolve, invoke, builtin, hd, hs, hrun, Result.andThen]
  exact h _ (by simpa [splice] using setRow_heap w g _ _ t _ hg) (Out.of_setRow w g _)
theorem wpList_copy_s (hgd : o.guard = none) (d s : Operand) (dT sT : TypeId) (ho : o.op = .call { callee := .builtin .copy, args := #[d, s], argTypes := #[dT, sT] })
    (elem : TypeId) (size : Nat) (hu : P.underlying dT = some (.slice elem)) (hsz : (P.info? elem).map (·.size) = some size) (dLen dCap sLen sCap g off : Nat) (ad : Addr) (hd : a.eval d = .slice (some ⟨g, off, none⟩) dLen dCap) (hs : a.eval s = .slice (some ad) sLen sCap)
    (cur : List Value) (t : TypeId) (hg : w.heap[g]? = some (.cells cur.toArray t (0, 0))) (cs : List Value) (hn : cs.length = Nat.min sLen dLen * size)
    (hsrc : ∀ j v, cs[j]? = some v → w.cell? (ad.add j) = some v) (hfit : off + cs.length ≤ cur.length) (h1 : ∀ v ∈ cs, v.oneCell' = true)
    (h : ∀ w', w'.heap[g]? = some (.cells (splice cur off cs).toArray t (0, 0)) → Out g (g + 1) w w' → wpList P ops Q rest (a.put o.dst (goInt (Nat.min sLen dLen))) w') : wpList P ops Q (o :: rest) a w :=
  wpList_plain hgd fun K hK => by
    have hw : Region.wanted o (yielded ops a.tmps) = true := by simp [Region.wanted, hgd]
    have := step_copy_s (E := False) (K := K) (Q := Q) (ops := ops) hgd d s dT sT ho elem size hu hsz dLen dCap sLen sCap g off ad hd hs cur t hg cs hn hsrc hfit h1 fun w' h1 h2 => hK _ _ (h w' h1 h2)
    rwa [if_pos hw] at this
/-- append of so many zeros where there is no room: a new row. -/
theorem wpList_append_zeros_s (hgd : o.guard = none) (s x : Operand) (t tn : TypeId) (ho : o.op = .call { callee := .builtin .append, args := #[s, x], argTypes := #[t, tn] })
    (e : TypeId) (i : TypeInfo) (z : Value) (size bytes : Nat) (kn : IntKind) (ht : P.underlying t = some (.slice e)) (htn : P.underlying tn = some (.int kn)) (hi : P.info? e = some i) (hz : i.zero = some z) (hsz : i.size = size) (hby : i.bytes = bytes) (hzs : z.cells.size = size) (h0s : 0 < size) (h0b : 0 < bytes)
    (g off n c : Nat) (hs : a.eval s = .slice (some ⟨g, off, none⟩) n c) (k : Nat) (hx : a.eval x = .int .i64 (k : Int)) (olds : List Value) (hl : olds.length = n * size) (hold : ∀ j v, olds[j]? = some v → w.cell? ⟨g, off + j, none⟩ = some v)
    (h0 : 0 < k) (hg : c < n + k) (hb : (n + k) * bytes ≤ 140737488355328)
    (h : ∀ w' R G (row : List Value), w.heap.size = R → w'.heap[R]? = some (.cells row.toArray e (0, 0)) → Below w.heap.size w w' → n + k ≤ G → G ≤ maxLen → row.length = G * size → row.take (n * size) = olds →
      wpList P ops Q rest (a.put o.dst (.slice (some ⟨R, 0, none⟩) (n + k) G)) w') : wpList P ops Q (o :: rest) a w := by
  have hf : (Builtin.firstCells i.size n (.slice (some ⟨g, off, none⟩) n c)).run P w.drew = .ok olds.toArray w.drew := by
    rw [hsz]
    exact run_firstCells_some w.drew size n ⟨g, off, none⟩ n c olds hl (fun j v hj => by
      have hadd : (⟨g, off, none⟩ : Addr).add j = ⟨g, off + j, none⟩ := by unfold Addr.add; split <;> simp_all
      rw [hadd]
      exact hold j v hj)
  have hle63 : n + k ≤ 140737488355328 := Nat.le_trans (Nat.le_mul_of_pos_right (n + k) h0b) hb
  have hkb : k * bytes ≤ (n + k) * bytes := Nat.mul_le_mul_right bytes (by omega)
  have hr := Lib.run_append_grow_zeros (P := P) w t tn o.type e i _ .i64 kn ht htn hi hz (some ⟨g, off, none⟩) n c olds hf k h0 (by omega) hg (by omega) (by rw [hby]; omega) (by rw [hby]; exact growslice_fits hg hb)
  have hge := grownCap_ge w (n + k) c e
  have hle := grownCap_le_maxLen w (n + k) c e (by unfold maxLen; omega)
  refine Lib.wpList_append_run w hgd s x t tn ho _ _ hs hx _ _ hr ?_
  refine h _ _ (grownCap w (n + k) c e) (olds ++ (Builtin.zeroCells z.cells k).toList ++ (Builtin.zeroCells z.cells (grownCap w (n + k) c e - (n + k))).toList) rfl ?_ ?_ hge hle ?_ ?_
  · rw [show (olds ++ (Builtin.zeroCells z.cells k).toList ++ (Builtin.zeroCells z.cells (grownCap w (n + k) c e - (n + k))).toList).toArray = olds.toArray ++ Builtin.zeroCells z.cells k ++ Builtin.zeroCells z.cells (grownCap w (n + k) c e - (n + k)) from by apply Array.toList_inj.1; simp]
    exact heap_alloc_new w.drew _
  · exact (Below.refl _ _).drew.alloc (Nat.le_refl _) _
  · have e1 : ∀ m, (Builtin.zeroCells z.cells m).toList.length = m * size := fun m => by rw [← hzs]; simp [Builtin.zeroCells]
    rw [List.length_append, List.length_append, hl, e1, e1, ← Nat.add_mul, ← Nat.add_mul]
    congr 1
    omega
  · rw [List.append_assoc, List.take_left' hl]
end
/-- A row that is known whole, as items of the call's own. -/
theorem RsNew.of_row {α : Type} {c : α → List Value} {s : Nat} {e : TypeId} (hs : ∀ x, (c x).length = s) {lo hi g : Nat} {w : World} {cur : List Value} {L : List α} (hg : w.heap[g]? = some (.cells cur.toArray e (0, 0))) (ht : cur.take (L.length * s) = L.flatMap c) (h1 : lo ≤ g) (h2 : g < hi) : RsNew c s e lo hi w (some ⟨g, 0, none⟩) L := by
  have hlen : L.length * s ≤ cur.length := by
    have := congrArg List.length ht
    rw [List.length_take, flat_len c s hs] at this
    omega
  refine .inr ⟨g, 0, _, rfl, h1, h2, hg, by simpa using hlen, fun i x hx j v hv => ?_⟩
  have h3 := flat_at c s hs L i x hx j v hv
  have h4 := (List.getElem?_eq_some_iff.1 h3).1
  rw [flat_len c s hs] at h4
  rw [← ht, List.getElem?_take, if_pos h4] at h3
  rw [Nat.zero_add]
  simpa using h3
theorem flat_take {α : Type} (c : α → List Value) (s : Nat) (hs : ∀ x, (c x).length = s) : ∀ (l : List α) (k : Nat), (l.flatMap c).take (k * s) = (l.take k).flatMap c
  | l, 0 => by simp
  | [], k + 1 => by simp
  | x :: l, k + 1 => by
    rw [List.flatMap_cons, List.take_succ_cons, List.flatMap_cons, List.take_append, hs, flat_take' c s hs l k]
    rw [List.take_of_length_le (by rw [hs, Nat.succ_mul]; omega)]
where
  flat_take' {α : Type} (c : α → List Value) (s : Nat) (hs : ∀ x, (c x).length = s) (l : List α) (k : Nat) : (l.flatMap c).take ((k + 1) * s - s) = (l.take k).flatMap c := by
    rw [show (k + 1) * s - s = k * s by rw [Nat.succ_mul]; omega]
    exact flat_take c s hs l k
theorem flat_drop {α : Type} (c : α → List Value) (s : Nat) (hs : ∀ x, (c x).length = s) (l : List α) (k : Nat) (hk : k ≤ l.length) : (l.flatMap c).drop (k * s) = (l.drop k).flatMap c := by
  have h1 : l.flatMap c = (l.take k).flatMap c ++ (l.drop k).flatMap c := by rw [← List.flatMap_append, List.take_append_drop]
  have h2 : ((l.take k).flatMap c).length = k * s := by rw [flat_len c s hs, List.length_take, Nat.min_eq_left hk]
  rw [h1, List.drop_left' h2]
theorem flat_mid {α : Type} (c : α → List Value) (l m : List α) (x : α) : l.flatMap c ++ (c x ++ m.flatMap c) = (l ++ x :: m).flatMap c := by
  rw [List.flatMap_append, List.flatMap_cons]
section
variable {P : Program} {ops : Array Oper} {rest : List Oper} {o : Oper} {a : Act} {w : World} {Q : Exit → Act → World → Prop}
/-- append of one item: in its place, or in a new one. -/
theorem wpList_append_in {α : Type} {c : α → List Value} {size : Nat} (hc : ∀ x, (c x).length = size) (hone : ∀ x, ∀ u ∈ c x, u.oneCell' = true) (hgd : o.guard = none) (s x : Operand) (t : TypeId)
    (ho : o.op = .call { callee := .builtin .append, args := #[s, x], argTypes := #[t, t] })
    (e : TypeId) (i : TypeInfo) (z : Value) (bytes : Nat) (ht : P.underlying t = some (.slice e)) (hi : P.info? e = some i) (hz : i.zero = some z)
    (hsize : i.size = size) (hby : i.bytes = bytes) (hsz : 0 < size) (hbz : 0 < bytes)
    (lo hi' : Nat) (v : Value) (l : List α) (hs : a.eval s = v) (hown : OwnIn c size e lo hi' w v l) (hlh : lo ≤ hi')
    (b : Nat) (y : α) (hx : a.eval x = .slice (some ⟨b, 0, none⟩) 1 1) (hin : w.heap[b]? = some (.cells (c y).toArray e (0, 0)))
    (hbytes : (l.length + 1) * bytes ≤ 140737488355328)
    (h : ∀ w' a' c' l2 h2, (l ++ [y]).length ≤ c' → ((lo ≤ l2 ∧ h2 ≤ hi') ∨ (w.heap.size ≤ l2 ∧ h2 ≤ w'.heap.size)) → l2 ≤ h2 → RsNew c size e l2 h2 w' a' (l ++ [y]) → Out lo hi' w w' →
      wpList P ops Q rest (a.put o.dst (.slice a' (l.length + 1) c')) w') : wpList P ops Q (o :: rest) a w := by
  have h63 : l.length + 1 ≤ 140737488355328 := Nat.le_trans (Nat.le_mul_of_pos_right _ hbz) hbytes
  have hlen1 : (l ++ [y]).length = l.length + 1 := by simp
  have hy1 : (c y).length = 1 * size := by rw [hc]; omega
  have hnews : ∀ j u, (c y)[j]? = some u → w.cell? ((⟨b, 0, none⟩ : Addr).add j) = some u := fun j u hj => by
    rw [show (⟨b, 0, none⟩ : Addr).add j = ⟨b, j, none⟩ by unfold Addr.add; split <;> simp_all, cell_of_row w b j _ _ (0, 0) hin]
    simpa using hj
  have hfm : (l ++ [y]).flatMap c = l.flatMap c ++ c y := by simp
  have hfl := flat_len c size hc l
  -- the way that makes a new row
  have grow : ∀ (base : Option Addr) (cap : Nat), v = .slice base l.length cap → (Builtin.firstCells i.size l.length (.slice base l.length cap)).run P w.drew = .ok (l.flatMap c).toArray w.drew → cap < l.length + 1 → wpList P ops Q (o :: rest) a w := fun base cap hv hold hg => by
    have hsrc : Src P i.size t (.slice (some ⟨b, 0, none⟩) 1 1) 1 (c y) w := by
      rw [hsize]
      exact Src.ofSlice w ht ⟨b, 0, none⟩ 1 1 _ hy1 hnews (hone y)
    have hr := run_append_grow_src w t t o.type e i z ht hi hz base l.length cap (l.flatMap c) hold _ _ _ hsrc hg (by omega) (growslice_fits hg (by rw [hby]; exact hbytes))
    refine wpList_plain hgd fun K hK => ?_
    have hh := heap_alloc_new w.drew (.cells ((l.flatMap c ++ c y).toArray ++ Builtin.zeroCells z.cells (grownCap w (l.length + 1) cap e - (l.length + 1))) e)
    have hge := grownCap_ge w (l.length + 1) cap e
    unfold Oper.wp execOp
    simp only [ho, resolve, invoke, builtin, Sem.run_bind, Sem.run_pure, Result.andThen_ok, List.map_toArray, List.map_cons, List.map_nil, hs, hv, hx, hr]
    refine hK _ _ (h _ _ _ w.heap.size (w.heap.size + 1) (by rw [hlen1]; exact hge) (.inr ⟨Nat.le_refl _, by simp⟩) (Nat.le_succ _) (.inr ⟨w.heap.size, 0, _, rfl, Nat.le_refl _, Nat.lt_succ_self _, hh, ?_, fun i' x' hx' j u hu => ?_⟩) (Out.of_below ((Below.refl _ _).drew.alloc (Nat.le_refl _) _)))
    · rw [hlen1, Array.size_append, List.size_toArray, List.length_append, hfl, hc, Nat.succ_mul]
      omega
    · have h1 := flat_at c size hc (l ++ [y]) i' x' hx' j u hu
      rw [hfm] at h1
      have h2 := (List.getElem?_eq_some_iff.1 h1).1
      rw [Nat.zero_add, Array.getElem?_append_left (by simpa using h2)]
      simpa using h1
  obtain ⟨⟨k0, k1⟩, k2⟩ := hown
  rcases k1 with ⟨rfl, hn⟩ | ⟨g, cap, cur, rfl, hb', hg, hcap, hcm, hcs, htk⟩
  · have hl : l = [] := List.eq_nil_of_length_eq_zero hn
    subst hl
    exact grow none 0 rfl (run_firstCells_none w.drew i.size 0 0 0) (by simp)
  · by_cases hroom : l.length + 1 ≤ cap
    · have hlm : l.length * size + size ≤ cap * size := by rw [← Nat.succ_mul]; exact Nat.mul_le_mul_right size hroom
      have hfit : l.length * i.size + (c y).length ≤ cur.size := by rw [hsize, hc, hcs]; exact hlm
      have hr := run_append_room (P := P) w t o.type e i ht hi g l.length cap cur hg ⟨b, 0, none⟩ 1 1 (c y) (by rw [hsize]; exact hy1) hnews (hone y) hroom hfit
      refine wpList_plain hgd fun K hK => ?_
      unfold Oper.wp execOp
      simp only [ho, resolve, invoke, builtin, Sem.run_bind, Sem.run_pure, Result.andThen_ok, List.map_toArray, List.map_cons, List.map_nil, hs, hx, hr]
      have hgh := k2 g rfl
      refine hK _ _ (h _ _ _ lo hi' (by rw [hlen1]; exact hroom) (.inl ⟨Nat.le_refl _, Nat.le_refl _⟩) hlh (RsNew.of_row hc (setRow_heap w g cur _ e _ hg) ?_ hb' hgh) ?_)
      · rw [hlen1, hfm, hsize, htk]
        have e1 : (l.length + 1) * size = (l.flatMap c ++ c y).length := by rw [List.length_append, hfl, hc, Nat.succ_mul]
        rw [e1]
        exact List.take_left' rfl
      · have := Out.of_setRow w g (cur.toList.take (l.length * i.size) ++ c y ++ cur.toList.drop (l.length * i.size + (c y).length)).toArray
        exact ⟨this.os, this.tape, this.output, this.size, fun k hk h3 => this.block k hk (by omega)⟩
    · refine grow (some ⟨g, 0, none⟩) cap rfl ?_ (by omega)
      rw [hsize]
      refine run_firstCells_some w.drew size l.length ⟨g, 0, none⟩ l.length cap (l.flatMap c) hfl (fun j u hj => ?_)
      have hadd : (⟨g, 0, none⟩ : Addr).add j = ⟨g, j, none⟩ := by unfold Addr.add; split <;> simp_all
      rw [hadd, cell_of_row w.drew g j cur e (0, 0) hg]
      rw [← htk, List.getElem?_take] at hj
      split at hj
      · simpa using hj
      · cases hj
end
/-- A row of the call's own, in which one item more stands. -/
def InsOut {α : Type} (c : α → List Value) (s : Nat) (e : TypeId) (lo hi : Nat) (L : List α) (w : World) (en : Ending) (w' : World) : Prop :=
  ∃ a' c' l2 h2, en = .returned (.slice a' L.length c') ∧ L.length ≤ c' ∧ ((lo ≤ l2 ∧ h2 ≤ hi) ∨ (w.heap.size ≤ l2 ∧ h2 ≤ w'.heap.size)) ∧ l2 ≤ h2 ∧ RsNew c s e l2 h2 w' a' L ∧ Out lo hi w w'
theorem Ins.size_h : (Try.prog.info? 112).map (·.size) = some 3 := by kernel_rfl
set_option maxRecDepth 100000 in
set_option maxHeartbeats 4000000 in
/-- At the end. -/
theorem insert_end_h (lo hi : Nat) (v : Value) (l : List Hd) (vb : Nat) (x : Hd) (w : World) (h : OwnIn hdL 3 112 lo hi w v l) (hx : w.heap[vb]? = some (.cells (hdL x).toArray 112 (0, 0)))
    (hlen : l.length ≤ 1000) (hlh : lo ≤ hi) (hhi : hi ≤ w.heap.size) :
    Calls Try.prog 103 #[v, .int .i64 (l.length : Int), .slice (some ⟨vb, 0, none⟩) 1 1] w (InsOut hdL 3 112 lo hi (l ++ [x]) w) := by
  obtain ⟨i0, hi0, hz0, hz1, hz2⟩ := info_parts Clone.info_h
  have HI0 := Lib.hid (And.intro hi0 (And.intro hz0 (And.intro hz1 hz2)))
  clear hi0 hz0 hz1 hz2
  have HX := Lib.hid hx
  obtain ⟨a, cap, rfl, hcap, hnew⟩ := h.new hdL_len
  have HH := Lib.hid h
  have HL1 := Lib.hid (show (l ++ [x]).length = l.length + 1 by simp)
  obtain ⟨N, hN⟩ : ∃ N, l.length = N := ⟨_, rfl⟩
  have HN := Lib.hid hN
  rw [hN] at HH hlen hcap HL1 ⊢
  clear hN h hx hnew
  go_enter Try.func103, Try.ntmps103
  go_wp2_with (at_builtin; refine wpList_append_in hdL_len hdL_one rfl (.tmp 23) (.tmp 24) 65 rfl 112 i0 (.agg #[.int .i64 0, .int .i64 0, .int .i64 0]) 24 Try.underlying65 HI0.out.1 HI0.out.2.1 HI0.out.2.2.1 HI0.out.2.2.2 (by decide) (by decide) lo hi _ l rfl HH.out hlh vb x rfl HX.out (by rw [HN.out]; omega) ?_; intro w2 a2 c2 l2 h2 hc2 hsp hl2 hn2 ho2; rw [HN.out]; have HC2 := Lib.hid hc2; have HO2 := Lib.hid ho2; have HN2 := Lib.hid hn2; have HSp := Lib.hid hsp; have HL2 := Lib.hid hl2; clear hc2 ho2 hn2 hsp hl2)
  all_goals
    go_ret
    exact ⟨_, _, l2, h2, by rw [HL1.out]; rfl, HC2.out, HSp.out, HL2.out, HN2.out, HO2.out⟩
set_option maxRecDepth 100000 in
set_option maxHeartbeats 8000000 in
/-- Ahead of others, where there is room. -/
theorem insert_room_h (g cap N k : Nat) (cur : List Value) (l : List Hd) (vb : Nat) (x : Hd) (w : World) (hg : w.heap[g]? = some (.cells cur.toArray 112 (0, 0))) (hcur : cur.length = cap * 3) (hC : cur.take (N * 3) = l.flatMap hdL) (hN : l.length = N)
    (hx : w.heap[vb]? = some (.cells (hdL x).toArray 112 (0, 0))) (hne : vb ≠ g) (hk : k < N) (hroom : N + 1 ≤ cap) (hcm : cap ≤ maxLen) (hlen : N ≤ 1000) :
    Calls Try.prog 103 #[.slice (some ⟨g, 0, none⟩) N cap, .int .i64 (k : Int), .slice (some ⟨vb, 0, none⟩) 1 1] w fun e w' => e = .returned (.slice (some ⟨g, 0, none⟩) (N + 1) cap) ∧ RsNew hdL 3 112 g (g + 1) w' (some ⟨g, 0, none⟩) (l.take k ++ x :: l.drop k) ∧ Out g (g + 1) w w' := by
  obtain ⟨i0, hi, hz0, hz1, hz2⟩ := info_parts Clone.info_h
  have hcm' : cap ≤ 9223372036854775807 := by unfold maxLen at hcm; omega
  have HG := Lib.hid hg
  have HX := Lib.hid hx
  have lg : g < w.heap.size := (Array.getElem?_eq_some_iff.1 hg).1
  have hfl := flat_len hdL 3 hdL_len l
  rw [hN] at hfl
  have hdl : ((l.drop k).flatMap hdL).length = (N - k) * 3 := by rw [flat_len hdL 3 hdL_len, List.length_drop, hN]
  have hov : ∀ lb cb, (callFunc 134 #[.slice (some ⟨vb, 0, none⟩) 1 1, .slice (some ⟨g, (k + 1) * 3, none⟩) lb cb]).run Try.prog w = .ok (.value (.bool false)) w := fun lb cb => by
    rw [run_callFunc_extern Try.func134 (by kernel_rfl) (by kernel_rfl) (by kernel_rfl) (e := Extern.SlicesOverlaps.overlaps #[65, 65] #[4]) (by kernel_rfl),
      Lib.run_overlaps_apart w 65 4 112 Try.underlying65 3 (fun W => by simp [sizeOf, typeInfo, hi, hz1]) ⟨vb, 0, none⟩ ⟨g, (k + 1) * 3, none⟩ 1 1 lb cb hne 112 112 3 (cap * 3) (by simp [World.shape?, hx, hdL]) (by simp [World.shape?, hg, hcur]) (by omega) (frozen_of_row w vb 0 _ _ hx) (frozen_of_row w vb 3 _ _ hx)]
    rfl
  have hw1 : IntKind.i64.wrap ((N : Int) + 1) = (N : Int) + 1 := IntWalk.i64_in _ (by omega)
  have hw2 : IntKind.i64.wrap ((k : Int) + 1) = (k : Int) + 1 := IntWalk.i64_in _ (by omega)
  clear hi hz0 hz1 hz2 i0
  have hz1 : ((k : Int) == (N : Int)) = false := by simp; omega
  have hz2 : decide ((cap : Int) < (N : Int) + 1) = false := decide_eq_false (by omega)
  have htn : ((k : Int) + 1).toNat = k + 1 := by omega
  have htm : ((N : Int) + 1).toNat = N + 1 := by omega
  have hb1 : (0 : Int) ≤ (k : Int) + 1 := by omega
  have hb2 : (k : Int) + 1 ≤ (N : Int) + 1 := by omega
  have hb3 : (k : Int) ≤ (N : Int) + 1 := by omega
  have hb4 : (k : Int) ≤ (N : Int) := by omega
  have hb5 : ¬ (cap = k + 1) := by omega
  have hb6 : ¬ (cap = k) := by omega
  have hb7 : (0 : Int) ≤ (N : Int) + 1 := by omega
  have hb8 : (N : Int) + 1 ≤ (cap : Int) := by omega
  have HS := Lib.hid (splice_blk cur (l.flatMap hdL) (hdL x) (N * 3) (k * 3) 3 (by omega) (by omega) hfl (hdL_len x) (by rw [← hC, List.take_take, Nat.min_eq_left (by omega)]))
  have HDr := Lib.hid (flat_drop hdL 3 hdL_len l k (by omega))
  have HTk := Lib.hid (flat_take hdL 3 hdL_len l k)
  have HSL := Lib.hid (show (k + 1) * 3 + ((l.drop k).flatMap hdL).length ≤ cur.length by omega)
  have HN1 := Lib.hid (show ((l.drop k).flatMap hdL).length = Nat.min (N + 1 - k) (N + 1 - (k + 1)) * 3 by rw [hdl, show Nat.min (N + 1 - k) (N + 1 - (k + 1)) = N - k by simp only [Nat.min_def]; split <;> omega])
  have HN2 := Lib.hid (show (hdL x).length = Nat.min 1 (N + 1 - k) * 3 by rw [hdL_len, show Nat.min 1 (N + 1 - k) = 1 by simp only [Nat.min_def]; split <;> omega])
  have HSL2 := Lib.hid (show k * 3 + (hdL x).length ≤ (splice cur ((k + 1) * 3) ((l.drop k).flatMap hdL)).length by rw [length_splice cur ((k + 1) * 3) _ HSL.out, hdL_len]; omega)
  have HLn := Lib.hid (show (l.take k ++ x :: l.drop k).length = N + 1 by simp; omega)
  have HOne := Lib.hid (show ∀ v ∈ (l.drop k).flatMap hdL, v.oneCell' = true from fun v hv => by
    obtain ⟨y, _, hy⟩ := List.mem_flatMap.1 hv
    exact hdL_one y v hy)
  have HSrc := Lib.hid (show ∀ (W : World), W.heap[g]? = some (.cells cur.toArray 112 (0, 0)) → ∀ j u, ((l.drop k).flatMap hdL)[j]? = some u → W.cell? ((⟨g, k * 3, none⟩ : Addr).add j) = some u from fun W hW j u hj => by
    rw [show (⟨g, k * 3, none⟩ : Addr).add j = ⟨g, k * 3 + j, none⟩ by unfold Addr.add; split <;> simp_all, cell_of_row W g (k * 3 + j) _ _ (0, 0) hW]
    rw [← HDr.out, List.getElem?_drop, ← hC, List.getElem?_take] at hj
    split at hj
    · simpa using hj
    · cases hj)
  clear hg hx hC hN hcm hdl hfl hcur
  go_enter Try.func103, Try.ntmps103
  go_wp2_with fail
  go_region_law (refine step_copy_s rfl (.tmp 73) (.tmp 76) 65 65 rfl 112 3 Try.underlying65 Ins.size_h (N + 1 - (k + 1)) (cap - (k + 1)) (N + 1 - k) (cap - k) g ((k + 1) * 3) ⟨g, k * 3, none⟩ (by simp [Act.eval, Act.put]) (by simp [Act.eval, Act.put]) cur 112 HG.out ((l.drop k).flatMap hdL) HN1.out (HSrc.out _ HG.out) HSL.out HOne.out ?_; intro w2 hg2 ho2; have HG2 := Lib.hid hg2; have HO2 := Lib.hid ho2; clear hg2 ho2)
  have HX2 := Lib.hid (HO2.out.row1 HX.out hne)
  have HXs := Lib.hid (show ∀ j u, (hdL x)[j]? = some u → w2.cell? ((⟨vb, 0, none⟩ : Addr).add j) = some u from fun j u hj => by
    rw [show (⟨vb, 0, none⟩ : Addr).add j = ⟨vb, j, none⟩ by unfold Addr.add; split <;> simp_all, cell_of_row w2 vb j _ _ (0, 0) HX2.out]
    simpa using hj)
  go_wp2_with (refine wpList_copy_s rfl (.tmp 80) (.tmp 81) 65 65 rfl 112 3 Try.underlying65 Ins.size_h (N + 1 - k) (cap - k) 1 1 g (k * 3) ⟨vb, 0, none⟩ rfl rfl _ 112 HG2.out (hdL x) HN2.out HXs.out HSL2.out (hdL_one x) ?_; intro w3 hg3 ho3; have HG3 := Lib.hid hg3; have HO3 := Lib.hid ho3; clear hg3 ho3)
  go_ret
  refine ⟨rfl, RsNew.of_row hdL_len HG3.out ?_ (Nat.le_refl _) (Nat.lt_succ_self _), (Out.of_below (Below.refl _ _).drew).trans (HO2.out.trans HO3.out)⟩
  rw [HLn.out, ← HDr.out, show (N + 1) * 3 = N * 3 + 3 by omega, show (k + 1) * 3 = k * 3 + 3 by omega, HS.out, HTk.out, HDr.out, flat_mid]
set_option maxRecDepth 100000 in
set_option maxHeartbeats 8000000 in
/-- Ahead of others, where there is none: a new row. -/
theorem insert_grow_h (g cap N k : Nat) (cur : List Value) (l : List Hd) (vb : Nat) (x : Hd) (w : World) (hg : w.heap[g]? = some (.cells cur.toArray 112 (0, 0))) (hC : cur.take (N * 3) = l.flatMap hdL) (hN : l.length = N)
    (hx : w.heap[vb]? = some (.cells (hdL x).toArray 112 (0, 0))) (hk : k < N) (hroom : cap < N + 1) (hcap : N ≤ cap) (hlen : N ≤ 1000) :
    Calls Try.prog 103 #[.slice (some ⟨g, 0, none⟩) N cap, .int .i64 (k : Int), .slice (some ⟨vb, 0, none⟩) 1 1] w fun e w' => ∃ c' R, e = .returned (.slice (some ⟨R, 0, none⟩) (N + 1) c') ∧ N + 1 ≤ c' ∧ w.heap.size ≤ R ∧ R < w'.heap.size ∧ RsNew hdL 3 112 R (R + 1) w' (some ⟨R, 0, none⟩) (l.take k ++ x :: l.drop k) ∧ Below w.heap.size w w' := by
  obtain ⟨i0, hi, hz0, hz1, hz2⟩ := info_parts Clone.info_h
  have HI0 := Lib.hid (And.intro hi (And.intro hz0 (And.intro hz1 hz2)))
  have HX := Lib.hid hx
  have lv : vb < w.heap.size := (Array.getElem?_eq_some_iff.1 hx).1
  have lg : g < w.heap.size := (Array.getElem?_eq_some_iff.1 hg).1
  have hfl := flat_len hdL 3 hdL_len l
  rw [hN] at hfl
  have HFl := Lib.hid hfl
  have hw1 : IntKind.i64.wrap ((N : Int) + 1) = (N : Int) + 1 := IntWalk.i64_in _ (by omega)
  have hw2 : IntKind.i64.wrap ((k : Int) + 1) = (k : Int) + 1 := IntWalk.i64_in _ (by omega)
  have hw3 : IntKind.i64.wrap ((N : Int) + 1 - (k : Int)) = ((N + 1 - k : Nat) : Int) := by rw [IntWalk.i64_in _ (by omega)]; omega
  clear hi hz0 hz1 hz2
  have hz1 : ((k : Int) == (N : Int)) = false := by simp; omega
  have hz2 : decide ((cap : Int) < (N : Int) + 1) = true := decide_eq_true (by omega)
  have htn : ((k : Int) + 1).toNat = k + 1 := by omega
  have hb1 : (0 : Int) ≤ (k : Int) + 1 := by omega
  have hb2 : (k : Int) + 1 ≤ (N : Int) + 1 := by omega
  have hb3 : (k : Int) ≤ (N : Int) + 1 := by omega
  have hb4 : (k : Int) ≤ (N : Int) := by omega
  have hb6 : ¬ (cap = k) := by omega
  have hkc : (k : Int) ≤ (cap : Int) := by omega
  have HKN := Lib.hid (show k + (N + 1 - k) = N + 1 by omega)
  have HDr := Lib.hid (flat_drop hdL 3 hdL_len l k (by omega))
  have HTk := Lib.hid (flat_take hdL 3 hdL_len l k)
  have HTl := Lib.hid (show ((l.take k).flatMap hdL).length = k * 3 by rw [flat_len hdL 3 hdL_len, List.length_take, hN, Nat.min_eq_left (by omega)])
  have HDl := Lib.hid (show ((l.drop k).flatMap hdL).length = (N - k) * 3 by rw [flat_len hdL 3 hdL_len, List.length_drop, hN])
  have HLn := Lib.hid (show (l.take k ++ x :: l.drop k).length = N + 1 by simp; omega)
  have HCu := Lib.hid (show (N + 1) * 24 ≤ 140737488355328 by omega)
  have HOne := Lib.hid (show ∀ v ∈ (l.drop k).flatMap hdL, v.oneCell' = true from fun v hv => by
    obtain ⟨y, _, hy⟩ := List.mem_flatMap.1 hv
    exact hdL_one y v hy)
  have HAll := Lib.hid (show ∀ j v, (l.flatMap hdL)[j]? = some v → w.cell? ⟨g, j, none⟩ = some v from fun j v hj => by
    rw [cell_of_row w g j _ _ (0, 0) hg]
    rw [← hC, List.getElem?_take] at hj
    split at hj
    · simpa using hj
    · cases hj)
  have HOld := Lib.hid (show ∀ j v, ((l.take k).flatMap hdL)[j]? = some v → w.cell? ⟨g, 0 + j, none⟩ = some v from fun j v hj => by
    rw [Nat.zero_add]
    refine HAll.out j v ?_
    rw [← HTk.out, List.getElem?_take] at hj
    split at hj
    · exact hj
    · cases hj)
  clear hx hN hg hC hfl
  go_enter Try.func103, Try.ntmps103
  go_wp2_with (first
    | (at_builtin; refine wpList_append_zeros_s rfl (.tmp 34) (.tmp 39) 65 3 rfl 112 i0 (.agg #[.int .i64 0, .int .i64 0, .int .i64 0]) 3 24 .i64 Try.underlying65 Try.underlying3 HI0.out.1 HI0.out.2.1 HI0.out.2.2.1 HI0.out.2.2.2 rfl (by decide) (by decide) g 0 k cap rfl (N + 1 - k) rfl ((l.take k).flatMap hdL) HTl.out HOld.out (by omega) (by omega) (by rw [HKN.out]; exact HCu.out) ?_; intro w2 R G row e2 hg2 b2 hG hGm hrl hrt; rw [HKN.out] at hG ⊢; have HG2 := Lib.hid hg2; have HB2 := Lib.hid b2; have HRl := Lib.hid hrl; have HRt := Lib.hid hrt; have HE2 := Lib.hid e2; have HGG := Lib.hid hG; have hGm' : G ≤ 9223372036854775807 := (by unfold maxLen at hGm; omega); clear hg2 b2 hrl hrt e2 hGm; have lg2 : g < R := (by have := HE2.out; omega); have lv2 : vb < R := (by have := HE2.out; omega); have hG1 : ¬ (G = k) := (by omega); have hG2 : ¬ (G = k + 1) := (by omega); have HN2 := Lib.hid (show (hdL x).length = Nat.min 1 (N + 1 - k) * 3 by rw [hdL_len, show Nat.min 1 (N + 1 - k) = 1 by simp only [Nat.min_def]; split <;> omega]); have HF2 := Lib.hid (show k * 3 + (hdL x).length ≤ row.length by rw [HRl.out, hdL_len]; omega); have HX2 := Lib.hid ((HB2.out.block vb lv).trans HX.out); have HXs := Lib.hid (show ∀ j u, (hdL x)[j]? = some u → w2.cell? ((⟨vb, 0, none⟩ : Addr).add j) = some u from fun j u hj => (by rw [show (⟨vb, 0, none⟩ : Addr).add j = ⟨vb, j, none⟩ by unfold Addr.add; split <;> simp_all, cell_of_row w2 vb j _ _ (0, 0) HX2.out]; simpa using hj)))
    | (refine wpList_copy_s rfl (.tmp 43) (.tmp 44) 65 65 rfl 112 3 Try.underlying65 Ins.size_h (N + 1 - k) (G - k) 1 1 R (k * 3) ⟨vb, 0, none⟩ rfl rfl row 112 HG2.out (hdL x) HN2.out HXs.out HF2.out (hdL_one x) ?_; intro w3 hg3 ho3; have HG3 := Lib.hid hg3; have HO3 := Lib.hid ho3; clear hg3 ho3))
  have HN3 := Lib.hid (show ((l.drop k).flatMap hdL).length = Nat.min (N - k) (N + 1 - (k + 1)) * 3 by rw [HDl.out, show Nat.min (N - k) (N + 1 - (k + 1)) = N - k by simp only [Nat.min_def]; split <;> omega])
  have HF3 := Lib.hid (show (k + 1) * 3 + ((l.drop k).flatMap hdL).length ≤ (splice row (k * 3) (hdL x)).length by rw [length_splice row (k * 3) _ HF2.out, HDl.out, HRl.out]; omega)
  have HSrc := Lib.hid (show ∀ j u, ((l.drop k).flatMap hdL)[j]? = some u → w3.cell? ((⟨g, k * 3, none⟩ : Addr).add j) = some u from fun j u hj => by
    rw [show (⟨g, k * 3, none⟩ : Addr).add j = ⟨g, k * 3 + j, none⟩ by unfold Addr.add; split <;> simp_all]
    have hsz : R < w2.heap.size := (Array.getElem?_eq_some_iff.1 HG2.out).1
    rw [HO3.out.cell (p := ⟨g, k * 3 + j, none⟩) (by show g < _; omega) (.inl lg2), HB2.out.cell (p := ⟨g, k * 3 + j, none⟩) lg]
    refine HAll.out _ u ?_
    rw [← HDr.out, List.getElem?_drop] at hj
    exact hj)
  go_region_law (refine step_copy_s rfl (.tmp 50) (.tmp 53) 65 65 rfl 112 3 Try.underlying65 Ins.size_h (N + 1 - (k + 1)) (G - (k + 1)) (N - k) (cap - k) R ((k + 1) * 3) ⟨g, k * 3, none⟩ (by simp [Act.eval, Act.put]) (by simp [Act.eval, Act.put]) _ 112 HG3.out ((l.drop k).flatMap hdL) HN3.out HSrc.out HF3.out HOne.out ?_; intro w4 hg4 ho4; have HG4 := Lib.hid hg4; have HO4 := Lib.hid ho4; clear hg4 ho4)
  go_wp2
  go_ret
  have hsz : R < w2.heap.size := (Array.getElem?_eq_some_iff.1 HG2.out).1
  have hS := splice_blk' row (l.flatMap hdL) (hdL x) (N * 3) (k * 3) 3 (by omega) (by rw [HRl.out]; have := HGG.out; omega) HFl.out (hdL_len x) (by rw [HRt.out, HTk.out])
  refine ⟨_, R, rfl, HGG.out, by rw [← HE2.out]; exact Nat.le_refl _, Nat.lt_of_lt_of_le hsz (Nat.le_trans HO3.out.size HO4.out.size), RsNew.of_row hdL_len HG4.out ?_ (Nat.le_refl _) (Nat.lt_succ_self _), ?_⟩
  · rw [HLn.out, ← HDr.out, show (N + 1) * 3 = N * 3 + 3 by omega, show (k + 1) * 3 = k * 3 + 3 by omega, hS, HTk.out, HDr.out, flat_mid]
  · exact (HO3.out.trans ((Out.of_below (Below.refl _ _).drew).trans HO4.out)).below HB2.out (by rw [HE2.out]; exact Nat.le_refl _) HB2.out.size
/-- One more at place k. -/
theorem insert_h (lo hi : Nat) (v : Value) (l : List Hd) (k : Nat) (vb : Nat) (x : Hd) (w : World) (h : OwnIn hdL 3 112 lo hi w v l) (hx : w.heap[vb]? = some (.cells (hdL x).toArray 112 (0, 0)))
    (hv : vb < lo ∨ hi ≤ vb) (hk : k ≤ l.length) (hlen : l.length ≤ 1000) (hlh : lo ≤ hi) (hhi : hi ≤ w.heap.size) :
    Calls Try.prog 103 #[v, .int .i64 (k : Int), .slice (some ⟨vb, 0, none⟩) 1 1] w (InsOut hdL 3 112 lo hi (l.take k ++ x :: l.drop k) w) := by
  rcases Nat.eq_or_lt_of_le hk with rfl | hk
  · have := insert_end_h lo hi v l vb x w h hx hlen hlh hhi
    rwa [List.take_length, List.drop_length]
  · have hL1 : (l.take k ++ x :: l.drop k).length = l.length + 1 := by simp; omega
    obtain ⟨⟨k0, k1⟩, k2⟩ := h
    rcases k1 with ⟨rfl, hn⟩ | ⟨g, cap, cur, rfl, hb, hg, hcap, hcm, hcs, htk⟩
    · omega
    · have hgh := k2 g rfl
      have hg' : w.heap[g]? = some (.cells cur.toList.toArray 112 (0, 0)) := by simpa using hg
      have htk' : cur.toList.take (l.length * 3) = l.flatMap hdL := htk
      by_cases hroom : l.length + 1 ≤ cap
      · refine (insert_room_h g cap l.length k cur.toList l vb x w hg' (by simpa using hcs) htk' rfl hx (by omega) hk hroom hcm hlen).mono ?_
        rintro e w' ⟨rfl, hn, ho⟩
        exact ⟨_, cap, g, g + 1, by rw [hL1], by rw [hL1]; exact hroom, .inl ⟨hb, hgh⟩, Nat.le_succ _, hn, ⟨ho.os, ho.tape, ho.output, ho.size, fun j hj h3 => ho.block j hj (by omega)⟩⟩
      · refine (insert_grow_h g cap l.length k cur.toList l vb x w hg' htk' rfl hx hk (by omega) hcap hlen).mono ?_
        rintro e w' ⟨c', R, rfl, hc', hR1, hR2, hn, hb2⟩
        exact ⟨_, c', R, R + 1, by rw [hL1], by rw [hL1]; exact hc', .inr ⟨hR1, hR2⟩, Nat.le_succ _, hn, Out.of_below hb2⟩
theorem Ins.size_d : (Try.prog.info? 97).map (·.size) = some 10 := by kernel_rfl
set_option maxRecDepth 100000 in
set_option maxHeartbeats 4000000 in
/-- At the end. -/
theorem insert_end_d (lo hi : Nat) (v : Value) (l : List Dv) (vb : Nat) (x : Dv) (w : World) (h : OwnIn dvL 10 97 lo hi w v l) (hx : w.heap[vb]? = some (.cells (dvL x).toArray 97 (0, 0)))
    (hlen : l.length ≤ 1000) (hlh : lo ≤ hi) (hhi : hi ≤ w.heap.size) :
    Calls Try.prog 84 #[v, .int .i64 (l.length : Int), .slice (some ⟨vb, 0, none⟩) 1 1] w (InsOut dvL 10 97 lo hi (l ++ [x]) w) := by
  obtain ⟨i0, hi0, hz0, hz1, hz2⟩ := info_parts Clone.info_d
  have HI0 := Lib.hid (And.intro hi0 (And.intro hz0 (And.intro hz1 hz2)))
  clear hi0 hz0 hz1 hz2
  have HX := Lib.hid hx
  obtain ⟨a, cap, rfl, hcap, hnew⟩ := h.new dvL_len
  have HH := Lib.hid h
  have HL1 := Lib.hid (show (l ++ [x]).length = l.length + 1 by simp)
  obtain ⟨N, hN⟩ : ∃ N, l.length = N := ⟨_, rfl⟩
  have HN := Lib.hid hN
  rw [hN] at HH hlen hcap HL1 ⊢
  clear hN h hx hnew
  go_enter Try.func84, Try.ntmps84
  go_wp2_with (at_builtin; refine wpList_append_in dvL_len dvL_one rfl (.tmp 23) (.tmp 24) 48 rfl 97 i0 (.agg #[.int .i64 0, .int .i64 0, .int .i64 0, .int .i64 0, .int .i64 0, .int .i64 0, .int .i64 0, .bool false, .int .i64 0, .int .i64 0]) 80 Try.underlying48 HI0.out.1 HI0.out.2.1 HI0.out.2.2.1 HI0.out.2.2.2 (by decide) (by decide) lo hi _ l rfl HH.out hlh vb x rfl HX.out (by rw [HN.out]; omega) ?_; intro w2 a2 c2 l2 h2 hc2 hsp hl2 hn2 ho2; rw [HN.out]; have HC2 := Lib.hid hc2; have HO2 := Lib.hid ho2; have HN2 := Lib.hid hn2; have HSp := Lib.hid hsp; have HL2 := Lib.hid hl2; clear hc2 ho2 hn2 hsp hl2)
  all_goals
    go_ret
    exact ⟨_, _, l2, h2, by rw [HL1.out]; rfl, HC2.out, HSp.out, HL2.out, HN2.out, HO2.out⟩
set_option maxRecDepth 100000 in
set_option maxHeartbeats 8000000 in
/-- Ahead of others, where there is room. -/
theorem insert_room_d (g cap N k : Nat) (cur : List Value) (l : List Dv) (vb : Nat) (x : Dv) (w : World) (hg : w.heap[g]? = some (.cells cur.toArray 97 (0, 0))) (hcur : cur.length = cap * 10) (hC : cur.take (N * 10) = l.flatMap dvL) (hN : l.length = N)
    (hx : w.heap[vb]? = some (.cells (dvL x).toArray 97 (0, 0))) (hne : vb ≠ g) (hk : k < N) (hroom : N + 1 ≤ cap) (hcm : cap ≤ maxLen) (hlen : N ≤ 1000) :
    Calls Try.prog 84 #[.slice (some ⟨g, 0, none⟩) N cap, .int .i64 (k : Int), .slice (some ⟨vb, 0, none⟩) 1 1] w fun e w' => e = .returned (.slice (some ⟨g, 0, none⟩) (N + 1) cap) ∧ RsNew dvL 10 97 g (g + 1) w' (some ⟨g, 0, none⟩) (l.take k ++ x :: l.drop k) ∧ Out g (g + 1) w w' := by
  obtain ⟨i0, hi, hz0, hz1, hz2⟩ := info_parts Clone.info_d
  have hcm' : cap ≤ 9223372036854775807 := by unfold maxLen at hcm; omega
  have HG := Lib.hid hg
  have HX := Lib.hid hx
  have lg : g < w.heap.size := (Array.getElem?_eq_some_iff.1 hg).1
  have hfl := flat_len dvL 10 dvL_len l
  rw [hN] at hfl
  have hdl : ((l.drop k).flatMap dvL).length = (N - k) * 10 := by rw [flat_len dvL 10 dvL_len, List.length_drop, hN]
  have hov : ∀ lb cb, (callFunc 125 #[.slice (some ⟨vb, 0, none⟩) 1 1, .slice (some ⟨g, (k + 1) * 10, none⟩) lb cb]).run Try.prog w = .ok (.value (.bool false)) w := fun lb cb => by
    rw [run_callFunc_extern Try.func125 (by kernel_rfl) (by kernel_rfl) (by kernel_rfl) (e := Extern.SlicesOverlaps.overlaps #[48, 48] #[4]) (by kernel_rfl),
      Lib.run_overlaps_apart w 48 4 97 Try.underlying48 10 (fun W => by simp [sizeOf, typeInfo, hi, hz1]) ⟨vb, 0, none⟩ ⟨g, (k + 1) * 10, none⟩ 1 1 lb cb hne 97 97 10 (cap * 10) (by simp [World.shape?, hx, dvL]) (by simp [World.shape?, hg, hcur]) (by omega) (frozen_of_row w vb 0 _ _ hx) (frozen_of_row w vb 10 _ _ hx)]
    rfl
  have hw1 : IntKind.i64.wrap ((N : Int) + 1) = (N : Int) + 1 := IntWalk.i64_in _ (by omega)
  have hw2 : IntKind.i64.wrap ((k : Int) + 1) = (k : Int) + 1 := IntWalk.i64_in _ (by omega)
  clear hi hz0 hz1 hz2 i0
  have hz1 : ((k : Int) == (N : Int)) = false := by simp; omega
  have hz2 : decide ((cap : Int) < (N : Int) + 1) = false := decide_eq_false (by omega)
  have htn : ((k : Int) + 1).toNat = k + 1 := by omega
  have htm : ((N : Int) + 1).toNat = N + 1 := by omega
  have hb1 : (0 : Int) ≤ (k : Int) + 1 := by omega
  have hb2 : (k : Int) + 1 ≤ (N : Int) + 1 := by omega
  have hb3 : (k : Int) ≤ (N : Int) + 1 := by omega
  have hb4 : (k : Int) ≤ (N : Int) := by omega
  have hb5 : ¬ (cap = k + 1) := by omega
  have hb6 : ¬ (cap = k) := by omega
  have hb7 : (0 : Int) ≤ (N : Int) + 1 := by omega
  have hb8 : (N : Int) + 1 ≤ (cap : Int) := by omega
  have HS := Lib.hid (splice_blk cur (l.flatMap dvL) (dvL x) (N * 10) (k * 10) 10 (by omega) (by omega) hfl (dvL_len x) (by rw [← hC, List.take_take, Nat.min_eq_left (by omega)]))
  have HDr := Lib.hid (flat_drop dvL 10 dvL_len l k (by omega))
  have HTk := Lib.hid (flat_take dvL 10 dvL_len l k)
  have HSL := Lib.hid (show (k + 1) * 10 + ((l.drop k).flatMap dvL).length ≤ cur.length by omega)
  have HN1 := Lib.hid (show ((l.drop k).flatMap dvL).length = Nat.min (N + 1 - k) (N + 1 - (k + 1)) * 10 by rw [hdl, show Nat.min (N + 1 - k) (N + 1 - (k + 1)) = N - k by simp only [Nat.min_def]; split <;> omega])
  have HN2 := Lib.hid (show (dvL x).length = Nat.min 1 (N + 1 - k) * 10 by rw [dvL_len, show Nat.min 1 (N + 1 - k) = 1 by simp only [Nat.min_def]; split <;> omega])
  have HSL2 := Lib.hid (show k * 10 + (dvL x).length ≤ (splice cur ((k + 1) * 10) ((l.drop k).flatMap dvL)).length by rw [length_splice cur ((k + 1) * 10) _ HSL.out, dvL_len]; omega)
  have HLn := Lib.hid (show (l.take k ++ x :: l.drop k).length = N + 1 by simp; omega)
  have HOne := Lib.hid (show ∀ v ∈ (l.drop k).flatMap dvL, v.oneCell' = true from fun v hv => by
    obtain ⟨y, _, hy⟩ := List.mem_flatMap.1 hv
    exact dvL_one y v hy)
  have HSrc := Lib.hid (show ∀ (W : World), W.heap[g]? = some (.cells cur.toArray 97 (0, 0)) → ∀ j u, ((l.drop k).flatMap dvL)[j]? = some u → W.cell? ((⟨g, k * 10, none⟩ : Addr).add j) = some u from fun W hW j u hj => by
    rw [show (⟨g, k * 10, none⟩ : Addr).add j = ⟨g, k * 10 + j, none⟩ by unfold Addr.add; split <;> simp_all, cell_of_row W g (k * 10 + j) _ _ (0, 0) hW]
    rw [← HDr.out, List.getElem?_drop, ← hC, List.getElem?_take] at hj
    split at hj
    · simpa using hj
    · cases hj)
  clear hg hx hC hN hcm hdl hfl hcur
  go_enter Try.func84, Try.ntmps84
  go_wp2_with fail
  go_region_law (refine step_copy_s rfl (.tmp 73) (.tmp 76) 48 48 rfl 97 10 Try.underlying48 Ins.size_d (N + 1 - (k + 1)) (cap - (k + 1)) (N + 1 - k) (cap - k) g ((k + 1) * 10) ⟨g, k * 10, none⟩ (by simp [Act.eval, Act.put]) (by simp [Act.eval, Act.put]) cur 97 HG.out ((l.drop k).flatMap dvL) HN1.out (HSrc.out _ HG.out) HSL.out HOne.out ?_; intro w2 hg2 ho2; have HG2 := Lib.hid hg2; have HO2 := Lib.hid ho2; clear hg2 ho2)
  have HX2 := Lib.hid (HO2.out.row1 HX.out hne)
  have HXs := Lib.hid (show ∀ j u, (dvL x)[j]? = some u → w2.cell? ((⟨vb, 0, none⟩ : Addr).add j) = some u from fun j u hj => by
    rw [show (⟨vb, 0, none⟩ : Addr).add j = ⟨vb, j, none⟩ by unfold Addr.add; split <;> simp_all, cell_of_row w2 vb j _ _ (0, 0) HX2.out]
    simpa using hj)
  go_wp2_with (refine wpList_copy_s rfl (.tmp 80) (.tmp 81) 48 48 rfl 97 10 Try.underlying48 Ins.size_d (N + 1 - k) (cap - k) 1 1 g (k * 10) ⟨vb, 0, none⟩ rfl rfl _ 97 HG2.out (dvL x) HN2.out HXs.out HSL2.out (dvL_one x) ?_; intro w3 hg3 ho3; have HG3 := Lib.hid hg3; have HO3 := Lib.hid ho3; clear hg3 ho3)
  go_ret
  refine ⟨rfl, RsNew.of_row dvL_len HG3.out ?_ (Nat.le_refl _) (Nat.lt_succ_self _), (Out.of_below (Below.refl _ _).drew).trans (HO2.out.trans HO3.out)⟩
  rw [HLn.out, ← HDr.out, show (N + 1) * 10 = N * 10 + 10 by omega, show (k + 1) * 10 = k * 10 + 10 by omega, HS.out, HTk.out, HDr.out, flat_mid]
set_option maxRecDepth 100000 in
set_option maxHeartbeats 8000000 in
/-- Ahead of others, where there is none: a new row. -/
theorem insert_grow_d (g cap N k : Nat) (cur : List Value) (l : List Dv) (vb : Nat) (x : Dv) (w : World) (hg : w.heap[g]? = some (.cells cur.toArray 97 (0, 0))) (hC : cur.take (N * 10) = l.flatMap dvL) (hN : l.length = N)
    (hx : w.heap[vb]? = some (.cells (dvL x).toArray 97 (0, 0))) (hk : k < N) (hroom : cap < N + 1) (hcap : N ≤ cap) (hlen : N ≤ 1000) :
    Calls Try.prog 84 #[.slice (some ⟨g, 0, none⟩) N cap, .int .i64 (k : Int), .slice (some ⟨vb, 0, none⟩) 1 1] w fun e w' => ∃ c' R, e = .returned (.slice (some ⟨R, 0, none⟩) (N + 1) c') ∧ N + 1 ≤ c' ∧ w.heap.size ≤ R ∧ R < w'.heap.size ∧ RsNew dvL 10 97 R (R + 1) w' (some ⟨R, 0, none⟩) (l.take k ++ x :: l.drop k) ∧ Below w.heap.size w w' := by
  obtain ⟨i0, hi, hz0, hz1, hz2⟩ := info_parts Clone.info_d
  have HI0 := Lib.hid (And.intro hi (And.intro hz0 (And.intro hz1 hz2)))
  have HX := Lib.hid hx
  have lv : vb < w.heap.size := (Array.getElem?_eq_some_iff.1 hx).1
  have lg : g < w.heap.size := (Array.getElem?_eq_some_iff.1 hg).1
  have hfl := flat_len dvL 10 dvL_len l
  rw [hN] at hfl
  have HFl := Lib.hid hfl
  have hw1 : IntKind.i64.wrap ((N : Int) + 1) = (N : Int) + 1 := IntWalk.i64_in _ (by omega)
  have hw2 : IntKind.i64.wrap ((k : Int) + 1) = (k : Int) + 1 := IntWalk.i64_in _ (by omega)
  have hw3 : IntKind.i64.wrap ((N : Int) + 1 - (k : Int)) = ((N + 1 - k : Nat) : Int) := by rw [IntWalk.i64_in _ (by omega)]; omega
  clear hi hz0 hz1 hz2
  have hz1 : ((k : Int) == (N : Int)) = false := by simp; omega
  have hz2 : decide ((cap : Int) < (N : Int) + 1) = true := decide_eq_true (by omega)
  have htn : ((k : Int) + 1).toNat = k + 1 := by omega
  have hb1 : (0 : Int) ≤ (k : Int) + 1 := by omega
  have hb2 : (k : Int) + 1 ≤ (N : Int) + 1 := by omega
  have hb3 : (k : Int) ≤ (N : Int) + 1 := by omega
  have hb4 : (k : Int) ≤ (N : Int) := by omega
  have hb6 : ¬ (cap = k) := by omega
  have hkc : (k : Int) ≤ (cap : Int) := by omega
  have HKN := Lib.hid (show k + (N + 1 - k) = N + 1 by omega)
  have HDr := Lib.hid (flat_drop dvL 10 dvL_len l k (by omega))
  have HTk := Lib.hid (flat_take dvL 10 dvL_len l k)
  have HTl := Lib.hid (show ((l.take k).flatMap dvL).length = k * 10 by rw [flat_len dvL 10 dvL_len, List.length_take, hN, Nat.min_eq_left (by omega)])
  have HDl := Lib.hid (show ((l.drop k).flatMap dvL).length = (N - k) * 10 by rw [flat_len dvL 10 dvL_len, List.length_drop, hN])
  have HLn := Lib.hid (show (l.take k ++ x :: l.drop k).length = N + 1 by simp; omega)
  have HCu := Lib.hid (show (N + 1) * 80 ≤ 140737488355328 by omega)
  have HOne := Lib.hid (show ∀ v ∈ (l.drop k).flatMap dvL, v.oneCell' = true from fun v hv => by
    obtain ⟨y, _, hy⟩ := List.mem_flatMap.1 hv
    exact dvL_one y v hy)
  have HAll := Lib.hid (show ∀ j v, (l.flatMap dvL)[j]? = some v → w.cell? ⟨g, j, none⟩ = some v from fun j v hj => by
    rw [cell_of_row w g j _ _ (0, 0) hg]
    rw [← hC, List.getElem?_take] at hj
    split at hj
    · simpa using hj
    · cases hj)
  have HOld := Lib.hid (show ∀ j v, ((l.take k).flatMap dvL)[j]? = some v → w.cell? ⟨g, 0 + j, none⟩ = some v from fun j v hj => by
    rw [Nat.zero_add]
    refine HAll.out j v ?_
    rw [← HTk.out, List.getElem?_take] at hj
    split at hj
    · exact hj
    · cases hj)
  clear hx hN hg hC hfl
  go_enter Try.func84, Try.ntmps84
  go_wp2_with (first
    | (at_builtin; refine wpList_append_zeros_s rfl (.tmp 34) (.tmp 39) 48 3 rfl 97 i0 (.agg #[.int .i64 0, .int .i64 0, .int .i64 0, .int .i64 0, .int .i64 0, .int .i64 0, .int .i64 0, .bool false, .int .i64 0, .int .i64 0]) 10 80 .i64 Try.underlying48 Try.underlying3 HI0.out.1 HI0.out.2.1 HI0.out.2.2.1 HI0.out.2.2.2 rfl (by decide) (by decide) g 0 k cap rfl (N + 1 - k) rfl ((l.take k).flatMap dvL) HTl.out HOld.out (by omega) (by omega) (by rw [HKN.out]; exact HCu.out) ?_; intro w2 R G row e2 hg2 b2 hG hGm hrl hrt; rw [HKN.out] at hG ⊢; have HG2 := Lib.hid hg2; have HB2 := Lib.hid b2; have HRl := Lib.hid hrl; have HRt := Lib.hid hrt; have HE2 := Lib.hid e2; have HGG := Lib.hid hG; have hGm' : G ≤ 9223372036854775807 := (by unfold maxLen at hGm; omega); clear hg2 b2 hrl hrt e2 hGm; have lg2 : g < R := (by have := HE2.out; omega); have lv2 : vb < R := (by have := HE2.out; omega); have hG1 : ¬ (G = k) := (by omega); have hG2 : ¬ (G = k + 1) := (by omega); have HN2 := Lib.hid (show (dvL x).length = Nat.min 1 (N + 1 - k) * 10 by rw [dvL_len, show Nat.min 1 (N + 1 - k) = 1 by simp only [Nat.min_def]; split <;> omega]); have HF2 := Lib.hid (show k * 10 + (dvL x).length ≤ row.length by rw [HRl.out, dvL_len]; omega); have HX2 := Lib.hid ((HB2.out.block vb lv).trans HX.out); have HXs := Lib.hid (show ∀ j u, (dvL x)[j]? = some u → w2.cell? ((⟨vb, 0, none⟩ : Addr).add j) = some u from fun j u hj => (by rw [show (⟨vb, 0, none⟩ : Addr).add j = ⟨vb, j, none⟩ by unfold Addr.add; split <;> simp_all, cell_of_row w2 vb j _ _ (0, 0) HX2.out]; simpa using hj)))
    | (refine wpList_copy_s rfl (.tmp 43) (.tmp 44) 48 48 rfl 97 10 Try.underlying48 Ins.size_d (N + 1 - k) (G - k) 1 1 R (k * 10) ⟨vb, 0, none⟩ rfl rfl row 97 HG2.out (dvL x) HN2.out HXs.out HF2.out (dvL_one x) ?_; intro w3 hg3 ho3; have HG3 := Lib.hid hg3; have HO3 := Lib.hid ho3; clear hg3 ho3))
  have HN3 := Lib.hid (show ((l.drop k).flatMap dvL).length = Nat.min (N - k) (N + 1 - (k + 1)) * 10 by rw [HDl.out, show Nat.min (N - k) (N + 1 - (k + 1)) = N - k by simp only [Nat.min_def]; split <;> omega])
  have HF3 := Lib.hid (show (k + 1) * 10 + ((l.drop k).flatMap dvL).length ≤ (splice row (k * 10) (dvL x)).length by rw [length_splice row (k * 10) _ HF2.out, HDl.out, HRl.out]; omega)
  have HSrc := Lib.hid (show ∀ j u, ((l.drop k).flatMap dvL)[j]? = some u → w3.cell? ((⟨g, k * 10, none⟩ : Addr).add j) = some u from fun j u hj => by
    rw [show (⟨g, k * 10, none⟩ : Addr).add j = ⟨g, k * 10 + j, none⟩ by unfold Addr.add; split <;> simp_all]
    have hsz : R < w2.heap.size := (Array.getElem?_eq_some_iff.1 HG2.out).1
    rw [HO3.out.cell (p := ⟨g, k * 10 + j, none⟩) (by show g < _; omega) (.inl lg2), HB2.out.cell (p := ⟨g, k * 10 + j, none⟩) lg]
    refine HAll.out _ u ?_
    rw [← HDr.out, List.getElem?_drop] at hj
    exact hj)
  go_region_law (refine step_copy_s rfl (.tmp 50) (.tmp 53) 48 48 rfl 97 10 Try.underlying48 Ins.size_d (N + 1 - (k + 1)) (G - (k + 1)) (N - k) (cap - k) R ((k + 1) * 10) ⟨g, k * 10, none⟩ (by simp [Act.eval, Act.put]) (by simp [Act.eval, Act.put]) _ 97 HG3.out ((l.drop k).flatMap dvL) HN3.out HSrc.out HF3.out HOne.out ?_; intro w4 hg4 ho4; have HG4 := Lib.hid hg4; have HO4 := Lib.hid ho4; clear hg4 ho4)
  go_wp2
  go_ret
  have hsz : R < w2.heap.size := (Array.getElem?_eq_some_iff.1 HG2.out).1
  have hS := splice_blk' row (l.flatMap dvL) (dvL x) (N * 10) (k * 10) 10 (by omega) (by rw [HRl.out]; have := HGG.out; omega) HFl.out (dvL_len x) (by rw [HRt.out, HTk.out])
  refine ⟨_, R, rfl, HGG.out, by rw [← HE2.out]; exact Nat.le_refl _, Nat.lt_of_lt_of_le hsz (Nat.le_trans HO3.out.size HO4.out.size), RsNew.of_row dvL_len HG4.out ?_ (Nat.le_refl _) (Nat.lt_succ_self _), ?_⟩
  · rw [HLn.out, ← HDr.out, show (N + 1) * 10 = N * 10 + 10 by omega, show (k + 1) * 10 = k * 10 + 10 by omega, hS, HTk.out, HDr.out, flat_mid]
  · exact (HO3.out.trans ((Out.of_below (Below.refl _ _).drew).trans HO4.out)).below HB2.out (by rw [HE2.out]; exact Nat.le_refl _) HB2.out.size
/-- One more at place k. -/
theorem insert_d (lo hi : Nat) (v : Value) (l : List Dv) (k : Nat) (vb : Nat) (x : Dv) (w : World) (h : OwnIn dvL 10 97 lo hi w v l) (hx : w.heap[vb]? = some (.cells (dvL x).toArray 97 (0, 0)))
    (hv : vb < lo ∨ hi ≤ vb) (hk : k ≤ l.length) (hlen : l.length ≤ 1000) (hlh : lo ≤ hi) (hhi : hi ≤ w.heap.size) :
    Calls Try.prog 84 #[v, .int .i64 (k : Int), .slice (some ⟨vb, 0, none⟩) 1 1] w (InsOut dvL 10 97 lo hi (l.take k ++ x :: l.drop k) w) := by
  rcases Nat.eq_or_lt_of_le hk with rfl | hk
  · have := insert_end_d lo hi v l vb x w h hx hlen hlh hhi
    rwa [List.take_length, List.drop_length]
  · have hL1 : (l.take k ++ x :: l.drop k).length = l.length + 1 := by simp; omega
    obtain ⟨⟨k0, k1⟩, k2⟩ := h
    rcases k1 with ⟨rfl, hn⟩ | ⟨g, cap, cur, rfl, hb, hg, hcap, hcm, hcs, htk⟩
    · omega
    · have hgh := k2 g rfl
      have hg' : w.heap[g]? = some (.cells cur.toList.toArray 97 (0, 0)) := by simpa using hg
      have htk' : cur.toList.take (l.length * 10) = l.flatMap dvL := htk
      by_cases hroom : l.length + 1 ≤ cap
      · refine (insert_room_d g cap l.length k cur.toList l vb x w hg' (by simpa using hcs) htk' rfl hx (by omega) hk hroom hcm hlen).mono ?_
        rintro e w' ⟨rfl, hn, ho⟩
        exact ⟨_, cap, g, g + 1, by rw [hL1], by rw [hL1]; exact hroom, .inl ⟨hb, hgh⟩, Nat.le_succ _, hn, ⟨ho.os, ho.tape, ho.output, ho.size, fun j hj h3 => ho.block j hj (by omega)⟩⟩
      · refine (insert_grow_d g cap l.length k cur.toList l vb x w hg' htk' rfl hx hk (by omega) hcap hlen).mono ?_
        rintro e w' ⟨c', R, rfl, hc', hR1, hR2, hn, hb2⟩
        exact ⟨_, c', R, R + 1, by rw [hL1], by rw [hL1]; exact hc', .inr ⟨hR1, hR2⟩, Nat.le_succ _, hn, Out.of_below hb2⟩
end Go.Proofs.Ytdhmcepnmbchkaa
