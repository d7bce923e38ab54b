/- A number more among numbers of the call's own: slices.Insert. No other memory is written. -/
import Derived.Test.YtdhmcepnmbchkaaClone
import Derived.Test.YtdhmcepnmbchkaaNameImpl
import Derived.Lib.Overlaps
import Derived.Lib.AppendZerosOnto
import Derived.Deep.RegionLaw
import Derived.Laws.CopyOwn
import Derived.Test.YtdhmcepnmbchkaaLit
namespace Go.Proofs.Ytdhmcepnmbchkaa
open Go.RowKit Go.Joins
set_option linter.unusedVariables false

/-- What two copies leave: all from place k on one place on, and x there. -/
theorem splice_two {α : Type} (R C : List α) (N k : Nat) (x : α) (hk : k < N) (hR : N < R.length) (hC : C.length = N) (hRC : R.take k = C.take k) :
    (splice (splice R (k + 1) (C.drop k)) k [x]).take (N + 1) = C.take k ++ x :: C.drop k := by
  have e : N + 1 = (C.take k ++ x :: C.drop k).length := by simp; omega
  have h1 : splice R (k + 1) (C.drop k) = R.take (k + 1) ++ (C.drop k ++ R.drop (N + 1)) := by
    unfold splice
    rw [show k + 1 + (C.drop k).length = N + 1 by rw [List.length_drop]; omega]
  have h2 : splice (splice R (k + 1) (C.drop k)) k [x] = (C.take k ++ x :: C.drop k) ++ R.drop (N + 1) := by
    rw [h1]
    unfold splice
    have l1 : (R.take (k + 1)).length = k + 1 := by rw [List.length_take]; omega
    rw [List.take_append_of_le_length (by omega), List.take_take, Nat.min_eq_left (by omega), hRC]
    rw [show k + [x].length = (R.take (k + 1)).length by rw [l1]; rfl, List.drop_left]
    simp
  rw [h2, e]
  exact List.take_left' rfl
theorem splice_two' {α : Type} (R C : List α) (N k : Nat) (x : α) (hk : k < N) (hR : N < R.length) (hC : C.length = N) (hRC : R.take k = C.take k) :
    (splice (splice R k [x]) (k + 1) (C.drop k)).take (N + 1) = C.take k ++ x :: C.drop k := by
  have e : N + 1 = (C.take k ++ x :: C.drop k).length := by simp; omega
  have h1 : splice R k [x] = (C.take k ++ [x]) ++ R.drop (k + 1) := by
    unfold splice
    rw [hRC]
    simp
  have l1 : (C.take k ++ [x]).length = k + 1 := by simp; omega
  have h2 : splice (splice R k [x]) (k + 1) (C.drop k) = (C.take k ++ x :: C.drop k) ++ ((C.take k ++ [x]) ++ R.drop (k + 1)).drop (k + 1 + (C.drop k).length) := by
    rw [h1]
    conv => lhs; unfold splice
    rw [List.take_left' l1]
    simp
  rw [h2, e]
  exact List.take_left' rfl

section
variable {P : Program} {ops : Array Oper} {rest : List Oper} {o : Oper} {a : Act} {w : World} {Q : Exit → Act → World → Prop}
/-- copy into a row that is known whole, as one step of a region that draws its order. -/
theorem step_copy_h {K : Act → World → Prop} {E : Prop} (hgd : o.guard = none) (d s : Operand) (dT sT : TypeId) (ho : o.op = .call { callee := .builtin .copy, args := #[d, s], argTypes := #[dT, sT] })
    (elem : TypeId) (hu : P.underlying dT = some (.slice elem)) (hsz : (P.info? elem).map (·.size) = some 1) (dp sp : Option Addr) (dLen dCap sLen sCap : Nat) (hd : a.eval d = .slice dp dLen dCap) (hs : a.eval s = .slice sp sLen sCap)
    (g off : Nat) (cur : List Value) (t : TypeId) (hg : w.heap[g]? = some (.cells cur.toArray t (0, 0))) (cs : List Value) (hn : cs.length = Nat.min sLen dLen)
    (hpos : 0 < cs.length → dp = some ⟨g, off, none⟩ ∧ ∃ ad, sp = some ad ∧ ∀ j v, cs[j]? = some v → w.cell? (ad.add j) = some v) (hfit : off + cs.length ≤ cur.length) (h1 : ∀ v ∈ cs, v.oneCell' = true)
    (h : ∀ w', w'.heap[g]? = some (.cells (splice cur off cs).toArray t (0, 0)) → Out g (g + 1) w w' → K (a.put o.dst (goInt cs.length)) w') :
    if Region.wanted o (yielded ops a.tmps) = true then Oper.wp P o a w K Q else E := by
  have hw : Region.wanted o (yielded ops a.tmps) = true := by simp [Region.wanted, hgd]
  rw [if_pos hw]
  by_cases h0 : cs.length = 0
  · obtain rfl : cs = [] := List.eq_nil_of_length_eq_zero h0
    have hrun := run_copy_none (P := P) w dT sT o.type elem dp sp dLen dCap sLen sCap hu hsz (by simpa using hn.symm)
    unfold Oper.wp
    simp [execOp, ho, resolve, invoke, builtin, hd, hs, hrun, Result.andThen]
    exact h w (by simpa [splice] using hg) (Out.refl _ _ _)
  · obtain ⟨rfl, ad, rfl, hsrc⟩ := hpos (by omega)
    have hrun := run_copy_row (P := P) w dT sT o.type elem g off dLen dCap ad sLen sCap cur.toArray t cs hu hsz hg hn hsrc (by simpa using hfit) h1
    unfold Oper.wp
    simp [execOp, ho, resolve, invoke, builtin, hd, hs, hrun, Result.andThen]
    exact h _ (by simpa [splice] using setRow_heap w g _ _ t _ hg) (Out.of_setRow w g _)
theorem wpList_copy_h (hgd : o.guard = none) (d s : Operand) (dT sT : TypeId) (ho : o.op = .call { callee := .builtin .copy, args := #[d, s], argTypes := #[dT, sT] })
    (elem : TypeId) (hu : P.underlying dT = some (.slice elem)) (hsz : (P.info? elem).map (·.size) = some 1) (dp sp : Option Addr) (dLen dCap sLen sCap : Nat) (hd : a.eval d = .slice dp dLen dCap) (hs : a.eval s = .slice sp sLen sCap)
    (g off : Nat) (cur : List Value) (t : TypeId) (hg : w.heap[g]? = some (.cells cur.toArray t (0, 0))) (cs : List Value) (hn : cs.length = Nat.min sLen dLen)
    (hpos : 0 < cs.length → dp = some ⟨g, off, none⟩ ∧ ∃ ad, sp = some ad ∧ ∀ j v, cs[j]? = some v → w.cell? (ad.add j) = some v) (hfit : off + cs.length ≤ cur.length) (h1 : ∀ v ∈ cs, v.oneCell' = true)
    (h : ∀ w', w'.heap[g]? = some (.cells (splice cur off cs).toArray t (0, 0)) → Out g (g + 1) w w' → wpList P ops Q rest (a.put o.dst (goInt cs.length)) w') : wpList P ops Q (o :: rest) a w :=
  wpList_plain hgd fun K hK => by
    have hw : Region.wanted o (yielded ops a.tmps) = true := by simp [Region.wanted, hgd]
    have := step_copy_h (E := False) (K := K) (Q := Q) (ops := ops) hgd d s dT sT ho elem hu hsz dp sp dLen dCap sLen sCap hd hs g off cur t hg cs hn hpos hfit h1 fun w' h1 h2 => hK _ _ (h w' h1 h2)
    rwa [if_pos hw] at this
/-- append of so many zeros where there is no room: a new row. -/
theorem wpList_append_zeros_h (hgd : o.guard = none) (s x : Operand) (t tn : TypeId) (ho : o.op = .call { callee := .builtin .append, args := #[s, x], argTypes := #[t, tn] })
    (e : TypeId) (i : TypeInfo) (kn : IntKind) (ht : P.underlying t = some (.slice e)) (htn : P.underlying tn = some (.int kn)) (hi : P.info? e = some i) (hz : i.zero = some (.int .i64 0)) (hsz : i.size = 1) (hby : i.bytes = 8)
    (g off n c : Nat) (hs : a.eval s = .slice (some ⟨g, off, none⟩) n c) (k : Nat) (hx : a.eval x = .int .i64 (k : Int)) (olds : List Value) (hl : olds.length = n) (hold : ∀ j v, olds[j]? = some v → w.cell? ⟨g, off + j, none⟩ = some v)
    (h0 : 0 < k) (hg : c < n + k) (hb : (n + k) * 8 ≤ 140737488355328)
    (h : ∀ w' R G (row : List Value), w.heap.size = R → w'.heap[R]? = some (.cells row.toArray e (0, 0)) → Below w.heap.size w w' → n + k ≤ G → G ≤ maxLen → row.length = G → row.take n = olds →
      wpList P ops Q rest (a.put o.dst (.slice (some ⟨R, 0, none⟩) (n + k) G)) w') : wpList P ops Q (o :: rest) a w := by
  have hf : (Builtin.firstCells i.size n (.slice (some ⟨g, off, none⟩) n c)).run P w.drew = .ok olds.toArray w.drew := by
    rw [hsz]
    exact run_firstCells_some w.drew 1 n ⟨g, off, none⟩ n c olds (by omega) (fun j v hj => by
      have hadd : (⟨g, off, none⟩ : Addr).add j = ⟨g, off + j, none⟩ := by unfold Addr.add; split <;> simp_all
      rw [hadd]
      exact hold j v hj)
  have hr := Lib.run_append_grow_zeros (P := P) w t tn o.type e i _ .i64 kn ht htn hi hz (some ⟨g, off, none⟩) n c olds hf k h0 (by omega) hg (by omega) (by rw [hby]; omega) (by rw [hby]; exact growslice_fits hg hb)
  have hge := grownCap_ge w (n + k) c e
  have hle := grownCap_le_maxLen w (n + k) c e (by unfold maxLen; omega)
  refine Lib.wpList_append_run w hgd s x t tn ho _ _ hs hx _ _ hr ?_
  refine h _ _ (grownCap w (n + k) c e) (olds ++ (Builtin.zeroCells (Value.int .i64 0).cells k).toList ++ (Builtin.zeroCells (Value.int .i64 0).cells (grownCap w (n + k) c e - (n + k))).toList) rfl ?_ ?_ hge hle ?_ ?_
  · rw [show (olds ++ (Builtin.zeroCells (Value.int .i64 0).cells k).toList ++ (Builtin.zeroCells (Value.int .i64 0).cells (grownCap w (n + k) c e - (n + k))).toList).toArray = olds.toArray ++ Builtin.zeroCells (Value.int .i64 0).cells k ++ Builtin.zeroCells (Value.int .i64 0).cells (grownCap w (n + k) c e - (n + k)) from by apply Array.toList_inj.1; simp]
    exact heap_alloc_new w.drew _
  · exact (Below.refl _ _).drew.alloc (Nat.le_refl _) _
  · simp [Builtin.zeroCells, Value.cells]
    omega
  · rw [List.append_assoc, List.take_left' hl]
end
/-- A row that is known whole, as numbers of the call's own. -/
theorem NumsNew.of_row {base g : Nat} {w : World} {cur : List Value} {T : TypeId} {L : List Int} (hg : w.heap[g]? = some (.cells cur.toArray T (0, 0))) (ht : cur.take L.length = ncells L) (hb : base ≤ g) : NumsNew base w.heap.size w (some ⟨g, 0, none⟩) L := by
  have hlt := heap_lt hg
  refine .inr ⟨g, 0, rfl, hb, hlt, hlt, fun j hj => frozen_of_row w g (0 + j) _ _ hg, fun i x hx => ?_⟩
  have hi : i < L.length := (List.getElem?_eq_some_iff.1 hx).1
  rw [Nat.zero_add, cell_of_row w g i _ _ (0, 0) hg]
  have h1 := ncells_at L i x hx
  rw [← ht, List.getElem?_take, if_pos hi] at h1
  simpa using h1
theorem Insert.info1 : (Try.prog.info? 2).map (fun i => (i.zero, i.size, i.bytes)) = some (some (.int .i64 0), 1, 8) := NumsTo.info
theorem Insert.one : (Try.prog.info? 2).map (·.size) = some 1 := by kernel_rfl
set_option maxRecDepth 100000 in
set_option maxHeartbeats 4000000 in
/-- At the end. -/
theorem insert_end (base : Nat) (v : Value) (l : List Int) (vb : Nat) (x : Int) (w : World) (h : w.ownsRow base 2 1 v l.length (ncells l)) (hx : w.heap[vb]? = some (.cells #[.int .i64 x] 2 (0, 0)))
    (hlen : l.length ≤ 1048576) (hbase : base ≤ w.heap.size) :
    Calls Try.prog 110 #[v, .int .i64 (l.length : Int), .slice (some ⟨vb, 0, none⟩) 1 1] w fun e w' => ∃ v', e = .returned v' ∧ w'.ownsRow base 2 1 v' (l.length + 1) (ncells (l ++ [x])) ∧ Below base w w' := by
  obtain ⟨i0, hi, hz0, hz1, hz2⟩ := info_parts NumsTo.info
  have HH := Lib.hid h
  obtain ⟨a, cap, rfl, hcap, hin⟩ := owns_nums h
  have HX := Lib.hid (show NumsIn w (some ⟨vb, 0, none⟩) [x] from .inr ⟨vb, 0, rfl, heap_lt hx, fun i y hy => by
    rw [Nat.zero_add, cell_of_row w vb i _ _ (0, 0) hx]
    rcases i with _ | i
    · simp at hy
      subst hy
      rfl
    · simp at hy⟩)
  have HB := Lib.hid (Below.refl base w)
  clear h hx hin
  obtain ⟨N, hN⟩ : ∃ N, l.length = N := ⟨_, rfl⟩
  rw [hN] at HH hlen hcap ⊢
  have HN := Lib.hid hN
  clear hN
  have ha1 : ¬ (cap = 0 ∧ 0 < N) := by omega
  go_enter Try.func110, Try.ntmps110
  go_wp2_with (at_builtin; refine wpList_append_nums rfl (.tmp 23) (.tmp 24) 25 rfl base 2 i0 (.int .i64 0) 8 Try.underlying25 hi hz0 hz1 hz2 rfl _ N (ncells l) rfl HH.out (some ⟨vb, 0, none⟩) 1 [x] 1 rfl (by rfl) HX.out (by unfold maxLen; omega) (by omega) hbase ?_; intro v2 w2 hown2 hg2; have HO2 := Lib.hid hown2; have b2 : Below base w w2 := HB.out.grown hg2 hbase (fun q hq => (World.ownsRow.lt HH.out q hq).1); clear hown2 hg2)
  all_goals
    go_ret
    exact ⟨_, rfl, by rw [ncells_append]; exact HO2.out, b2⟩
set_option maxRecDepth 100000 in
set_option maxHeartbeats 8000000 in
/-- Ahead of others, where there is room. -/
theorem insert_room (base g cap N k : Nat) (cur : List Value) (l : List Int) (vb : Nat) (x : Int) (w : World) (hg : w.heap[g]? = some (.cells cur.toArray 2 (0, 0))) (hcur : cur.length = cap) (hC : cur.take N = ncells l) (hN : l.length = N)
    (hx : w.heap[vb]? = some (.cells #[.int .i64 x] 2 (0, 0))) (hne : vb ≠ g) (hk : k < N) (hroom : N + 1 ≤ cap) (hcm : cap ≤ maxLen) (hb : base ≤ g) :
    Calls Try.prog 110 #[.slice (some ⟨g, 0, none⟩) N cap, .int .i64 (k : Int), .slice (some ⟨vb, 0, none⟩) 1 1] w fun e w' => ∃ a' c', e = .returned (.slice a' (N + 1) c') ∧ NumsNew base w'.heap.size w' a' (l.take k ++ x :: l.drop k) ∧ Below base w w' := by
  obtain ⟨i0, hi, hz0, hz1, hz2⟩ := info_parts NumsTo.info
  have hcm' : cap ≤ 9223372036854775807 := by unfold maxLen at hcm; omega
  have HG := Lib.hid hg
  have HX := Lib.hid hx
  have lg : g < w.heap.size := heap_lt hg
  have hdl : (ncells (l.drop k)).length = N - k := by rw [ncells_length, List.length_drop, hN]
  have hov : ∀ lb cb, (callFunc 138 #[.slice (some ⟨vb, 0, none⟩) 1 1, .slice (some ⟨g, k + 1, none⟩) lb cb]).run Try.prog w = .ok (.value (.bool false)) w := fun lb cb => by
    rw [run_callFunc_extern Try.func138 (by kernel_rfl) (by kernel_rfl) (by kernel_rfl) (e := Extern.SlicesOverlaps.overlaps #[25, 25] #[4]) (by kernel_rfl),
      Lib.run_overlaps_apart w 25 4 2 Try.underlying25 1 (fun W => by simp [sizeOf, typeInfo, hi, hz1]) ⟨vb, 0, none⟩ ⟨g, k + 1, none⟩ 1 1 lb cb hne 2 2 1 cap (by simp [World.shape?, hx]) (by simp [World.shape?, hg, hcur]) (by omega) (frozen_of_row w vb 0 _ _ hx) (frozen_of_row w vb 1 _ _ hx)]
    rfl
  have hw1 : IntKind.i64.wrap ((N : Int) + 1) = (N : Int) + 1 := IntWalk.i64_in _ (by omega)
  have hw2 : IntKind.i64.wrap ((k : Int) + 1) = (k : Int) + 1 := IntWalk.i64_in _ (by omega)
  clear hi hz0 hz1 hz2 i0
  have hz1 : ((k : Int) == (N : Int)) = false := by simp; omega
  have hz2 : decide ((cap : Int) < (N : Int) + 1) = false := decide_eq_false (by omega)
  have htn : ((k : Int) + 1).toNat = k + 1 := by omega
  have htm : ((N : Int) + 1).toNat = N + 1 := by omega
  have hb1 : (0 : Int) ≤ (k : Int) + 1 := by omega
  have hb2 : (k : Int) + 1 ≤ (N : Int) + 1 := by omega
  have hb3 : (k : Int) ≤ (N : Int) + 1 := by omega
  have hb4 : (k : Int) ≤ (N : Int) := by omega
  have hb5 : ¬ (cap = k + 1) := by omega
  have hb6 : ¬ (cap = k) := by omega
  have hb7 : (0 : Int) ≤ (N : Int) + 1 := by omega
  have hb8 : (N : Int) + 1 ≤ (cap : Int) := by omega
  have HS := Lib.hid (splice_two cur (ncells l) N k (.int .i64 x) hk (by omega) (by rw [ncells_length, hN]) (by rw [← hC, List.take_take, Nat.min_eq_left (by omega)]))
  have HDr := Lib.hid (show (ncells l).drop k = ncells (l.drop k) by simp [ncells])
  have hsl : k + 1 + (ncells (l.drop k)).length ≤ cur.length := by omega
  have HSL := Lib.hid hsl
  have HN1 := Lib.hid (show (ncells (l.drop k)).length = Nat.min (N + 1 - k) (N + 1 - (k + 1)) by rw [hdl]; simp only [Nat.min_def]; split <;> omega)
  have HN2 := Lib.hid (show [Value.int .i64 x].length = Nat.min 1 (N + 1 - k) by simp only [Nat.min_def]; split <;> simp <;> omega)
  have HSL2 := Lib.hid (show k + [Value.int .i64 x].length ≤ (splice cur (k + 1) (ncells (l.drop k))).length by rw [length_splice cur (k + 1) _ hsl]; simp; omega)
  have HLn := Lib.hid (show (l.take k ++ x :: l.drop k).length = N + 1 by simp; omega)
  have HBk := Lib.hid hb
  have HSrc := Lib.hid (show ∀ (W : World), W.heap[g]? = some (.cells cur.toArray 2 (0, 0)) → ∀ j u, (ncells (l.drop k))[j]? = some u → W.cell? ((⟨g, k, none⟩ : Addr).add j) = some u from fun W hW j u hj => by
    rw [show (⟨g, k, none⟩ : Addr).add j = ⟨g, k + j, none⟩ by unfold Addr.add; split <;> simp_all, cell_of_row W g (k + j) _ _ (0, 0) hW]
    have h1 : (ncells l)[k + j]? = some u := by
      unfold ncells at hj ⊢
      rw [List.getElem?_map] at hj ⊢
      rw [List.getElem?_drop] at hj
      exact hj
    rw [← hC, List.getElem?_take] at h1
    split at h1
    · simpa using h1
    · cases h1)
  clear hg hx hC hN hcm hdl hsl hb hcur
  go_enter Try.func110, Try.ntmps110
  go_wp2_with fail
  go_region_law (refine step_copy_h rfl (.tmp 73) (.tmp 76) 25 25 rfl 2 Try.underlying25 Insert.one (some ⟨g, k + 1, none⟩) (some ⟨g, k, none⟩) (N + 1 - (k + 1)) (cap - (k + 1)) (N + 1 - k) (cap - k) (by simp [Act.eval, Act.put]) (by simp [Act.eval, Act.put]) g (k + 1) cur 2 HG.out (ncells (l.drop k)) HN1.out (fun _ => ⟨rfl, ⟨g, k, none⟩, rfl, HSrc.out _ HG.out⟩) HSL.out (ncells_one _) ?_; intro w2 hg2 ho2; have HG2 := Lib.hid hg2; have HO2 := Lib.hid ho2; clear hg2 ho2)
  have HX2 := Lib.hid (HO2.out.row1 HX.out hne)
  go_wp2_with (refine wpList_copy_h rfl (.tmp 80) (.tmp 81) 25 25 rfl 2 Try.underlying25 Insert.one (some ⟨g, k, none⟩) (some ⟨vb, 0, none⟩) (N + 1 - k) (cap - k) 1 1 rfl rfl g k _ 2 HG2.out [.int .i64 x] HN2.out (fun _ => ⟨rfl, ⟨vb, 0, none⟩, rfl, cells_first' HX2.out⟩) HSL2.out (by simp [Value.oneCell']) ?_; intro w3 hg3 ho3; have HG3 := Lib.hid hg3; have HO3 := Lib.hid ho3; clear hg3 ho3)
  go_ret
  exact ⟨_, _, rfl, NumsNew.of_row HG3.out (by rw [HLn.out, ← HDr.out, HS.out, HDr.out]; simp [ncells]) HBk.out, (HO2.out.trans HO3.out).below (Below.refl base w).drew HBk.out (Nat.le_trans HBk.out (Nat.le_of_lt lg))⟩
set_option maxRecDepth 100000 in
set_option maxHeartbeats 8000000 in
/-- Ahead of others, where there is none: a new row. -/
theorem insert_grow (base g cap N k : Nat) (l : List Int) (vb : Nat) (x : Int) (w : World) (hin : NumsIn w (some ⟨g, 0, none⟩) l) (hN : l.length = N)
    (hx : w.heap[vb]? = some (.cells #[.int .i64 x] 2 (0, 0))) (hk : k < N) (hroom : cap < N + 1) (hcap : N ≤ cap) (hlen : N ≤ 1048576) (hb : base ≤ w.heap.size) :
    Calls Try.prog 110 #[.slice (some ⟨g, 0, none⟩) N cap, .int .i64 (k : Int), .slice (some ⟨vb, 0, none⟩) 1 1] w fun e w' => ∃ a' c', e = .returned (.slice a' (N + 1) c') ∧ NumsNew base w'.heap.size w' a' (l.take k ++ x :: l.drop k) ∧ Below base w w' := by
  obtain ⟨i0, hi, hz0, hz1, hz2⟩ := info_parts NumsTo.info
  have HX := Lib.hid hx
  obtain ⟨g', o', hgo, hlt, hc⟩ := hin.at (by omega)
  simp at hgo
  obtain ⟨rfl, rfl⟩ := hgo
  have lv : vb < w.heap.size := heap_lt hx
  have HI := Lib.hid hc
  have HI0 := Lib.hid hi
  have hw1 : IntKind.i64.wrap ((N : Int) + 1) = (N : Int) + 1 := IntWalk.i64_in _ (by omega)
  have hw2 : IntKind.i64.wrap ((k : Int) + 1) = (k : Int) + 1 := IntWalk.i64_in _ (by omega)
  have hw3 : IntKind.i64.wrap ((N : Int) + 1 - (k : Int)) = ((N + 1 - k : Nat) : Int) := by rw [IntWalk.i64_in _ (by omega)]; omega
  have HZ := Lib.hid (And.intro hz0 (And.intro hz1 hz2))
  clear hi hz0 hz1 hz2
  have hz1 : ((k : Int) == (N : Int)) = false := by simp; omega
  have hz2 : decide ((cap : Int) < (N : Int) + 1) = true := decide_eq_true (by omega)
  have htn : ((k : Int) + 1).toNat = k + 1 := by omega
  have hb1 : (0 : Int) ≤ (k : Int) + 1 := by omega
  have hb2 : (k : Int) + 1 ≤ (N : Int) + 1 := by omega
  have hb3 : (k : Int) ≤ (N : Int) + 1 := by omega
  have hb4 : (k : Int) ≤ (N : Int) := by omega
  have hb6 : ¬ (cap = k) := by omega
  have hkc : (k : Int) ≤ (cap : Int) := by omega
  have hkN : k + (N + 1 - k) = N + 1 := by omega
  have HKN := Lib.hid hkN
  have HDr := Lib.hid (show (ncells l).drop k = ncells (l.drop k) by simp [ncells])
  have HTl := Lib.hid (show (ncells (l.take k)).length = k by rw [ncells_length, List.length_take, hN]; omega)
  have HDl := Lib.hid (show (ncells (l.drop k)).length = N - k by rw [ncells_length, List.length_drop, hN])
  have HNl := Lib.hid hN
  have HLn := Lib.hid (show (l.take k ++ x :: l.drop k).length = N + 1 by simp; omega)
  have HBb := Lib.hid hb
  have HCu := Lib.hid (show (N + 1) * 8 ≤ 140737488355328 by omega)
  have HOld := Lib.hid (show ∀ j v, (ncells (l.take k))[j]? = some v → w.cell? ⟨g, 0 + j, none⟩ = some v from fun j v hj => by
    unfold ncells at hj
    rw [List.getElem?_map, List.getElem?_take] at hj
    split at hj
    · cases hq : l[j]? with
      | none => rw [hq] at hj; cases hj
      | some y => rw [hq] at hj; obtain rfl := Option.some.inj hj; exact hc j y hq
    · cases hj)
  clear hx hin hN hc hb hkN
  go_enter Try.func110, Try.ntmps110
  go_wp2_with (first
    | (at_builtin; refine wpList_append_zeros_h rfl (.tmp 34) (.tmp 39) 25 3 rfl 2 i0 .i64 Try.underlying25 Try.underlying3 HI0.out HZ.out.1 HZ.out.2.1 HZ.out.2.2 g 0 k cap rfl (N + 1 - k) rfl (ncells (l.take k)) HTl.out HOld.out (by omega) (by omega) (by rw [HKN.out]; exact HCu.out) ?_; intro w2 R G row e2 hg2 b2 hG hGm hrl hrt; rw [HKN.out] at hG ⊢; have HG2 := Lib.hid hg2; have HB2 := Lib.hid b2; have HRl := Lib.hid hrl; have HRt := Lib.hid hrt; have HE2 := Lib.hid e2; have hGm' : G ≤ 9223372036854775807 := (by unfold maxLen at hGm; omega); clear hg2 b2 hrl hrt e2 hGm; have lg2 : g < R := (by have := HE2.out; omega); have lv2 : vb < R := (by have := HE2.out; omega); have hG1 : ¬ (G = k) := (by omega); have hG2 : ¬ (G = k + 1) := (by omega); have HN2 := Lib.hid (show [Value.int .i64 x].length = Nat.min 1 (N + 1 - k) by simp only [Nat.min_def]; split <;> simp <;> omega); have HF2 := Lib.hid (show k + [Value.int .i64 x].length ≤ row.length by rw [HRl.out]; simp; omega); have HX2 := Lib.hid ((HB2.out.block vb (heap_lt HX.out)).trans HX.out))
    | (refine wpList_copy_h rfl (.tmp 43) (.tmp 44) 25 25 rfl 2 Try.underlying25 Insert.one (some ⟨R, k, none⟩) (some ⟨vb, 0, none⟩) (N + 1 - k) (G - k) 1 1 rfl rfl R k row 2 HG2.out [.int .i64 x] HN2.out (fun _ => ⟨rfl, ⟨vb, 0, none⟩, rfl, cells_first' HX2.out⟩) HF2.out (by simp [Value.oneCell']) ?_; intro w3 hg3 ho3; have HG3 := Lib.hid hg3; have HO3 := Lib.hid ho3; clear hg3 ho3))
  have HN3 := Lib.hid (show (ncells (l.drop k)).length = Nat.min (N - k) (N + 1 - (k + 1)) by rw [HDl.out]; simp only [Nat.min_def]; split <;> omega)
  have HF3 := Lib.hid (show k + 1 + (ncells (l.drop k)).length ≤ (splice row k [Value.int .i64 x]).length by rw [length_splice row k _ HF2.out, HDl.out, HRl.out]; omega)
  have HSrc := Lib.hid (show ∀ j u, (ncells (l.drop k))[j]? = some u → w3.cell? ((⟨g, k, none⟩ : Addr).add j) = some u from fun j u hj => by
    rw [show (⟨g, k, none⟩ : Addr).add j = ⟨g, k + j, none⟩ by unfold Addr.add; split <;> simp_all]
    have hsz : R < w2.heap.size := heap_lt HG2.out
    rw [HO3.out.cell (p := ⟨g, k + j, none⟩) (by show g < _; omega) (.inl lg2), HB2.out.cell (p := ⟨g, k + j, none⟩) (by show g < _; have := HE2.out; omega)]
    unfold ncells at hj
    rw [List.getElem?_map, List.getElem?_drop] at hj
    cases hq : l[k + j]? with
    | none => rw [hq] at hj; cases hj
    | some y =>
      rw [hq] at hj
      obtain rfl := Option.some.inj hj
      have := HI.out (k + j) y hq
      simpa using this)
  go_region_law (refine step_copy_h rfl (.tmp 50) (.tmp 53) 25 25 rfl 2 Try.underlying25 Insert.one (some ⟨R, k + 1, none⟩) (some ⟨g, k, none⟩) (N + 1 - (k + 1)) (G - (k + 1)) (N - k) (cap - k) (by simp [Act.eval, Act.put]) (by simp [Act.eval, Act.put]) R (k + 1) _ 2 HG3.out (ncells (l.drop k)) HN3.out (fun _ => ⟨rfl, ⟨g, k, none⟩, rfl, HSrc.out⟩) HF3.out (ncells_one _) ?_; intro w4 hg4 ho4; have HG4 := Lib.hid hg4; have HO4 := Lib.hid ho4; clear hg4 ho4)
  go_wp2
  go_ret
  have hS := splice_two' row (ncells l) N k (.int .i64 x) hk (by rw [HRl.out]; omega) (by rw [ncells_length, HNl.out]) (by rw [HRt.out]; simp [ncells])
  have hRs : base ≤ R := by rw [← HE2.out]; exact HBb.out
  refine ⟨_, _, rfl, NumsNew.of_row HG4.out (by rw [HLn.out, ← HDr.out, hS, HDr.out]; simp [ncells]) hRs, ?_⟩
  have h3 := (HO3.out.trans ((Out.of_below (Below.refl _ _).drew).trans HO4.out)).below (HB2.out.mono HBb.out) hRs (Nat.le_trans HBb.out HB2.out.size)
  exact h3
end Go.Proofs.Ytdhmcepnmbchkaa
