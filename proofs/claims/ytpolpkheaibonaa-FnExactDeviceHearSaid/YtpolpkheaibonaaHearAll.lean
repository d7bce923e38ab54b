/- Several texts in one, each with its own head: what is proved, and of what, stands there. -/
import Derived.Test.YtpolpkheaibonaaHds
import Derived.Test.YtpolpkheaibonaaDvs
import Derived.Test.YtpolpkheaibonaaLits
import Derived.Lib.SliceRun
import Derived.Lib.Overlaps
import Derived.Lib.AppendZerosOnto
import Derived.Deep.RegionLaw
import Derived.Laws.CopyOwn
import Derived.Test.YtpolpkheaibonaaDevAll
import Derived.Test.YtpolpkheaibonaaDvRight
import Derived.Test.YtpolpkheaibonaaNameLess3
/- A copy of rows of structs in new memory: slices.Clone. Nothing that was there is written. -/
namespace Go.Proofs.Ytpolpkheaibonaa
open Go.RowKit Go.Joins
set_option linter.unusedVariables false

theorem OwnIn.out {α : Type} {c : α → List Value} {s : Nat} {e : TypeId} {lo hi lo' hi' : Nat} {w w' : World} {v : Value} {l : List α} (h : OwnIn c s e lo hi w v l) (ho : Out lo' hi' w w') (hh : hi ≤ w.heap.size) (hd : hi ≤ lo' ∨ hi' ≤ lo) : OwnIn c s e lo hi w' v l :=
  (h.solid.out ho hh hd).here
theorem OwnIn.low {α : Type} {c : α → List Value} {s : Nat} {e : TypeId} {lo hi lo' : Nat} {w : World} {v : Value} {l : List α} (h : OwnIn c s e lo hi w v l) (h1 : lo' ≤ lo) : OwnIn c s e lo' hi w v l := by
  obtain ⟨⟨k0, k1⟩, k2⟩ := h
  refine ⟨⟨k0, ?_⟩, k2⟩
  rcases k1 with k1 | ⟨g, cap, cur, rfl, hb, r⟩
  · exact .inl k1
  · exact .inr ⟨g, cap, cur, rfl, by omega, r⟩
/-- Rows of two types stand in two blocks. -/
theorem ownIn_apart {α β : Type} {c : α → List Value} {d : β → List Value} {s t : Nat} {e f : TypeId} {lo hi lo' hi' : Nat} {w : World} {a : Option Addr} {v : Value} {l : List α} {m : List β} (hne : e ≠ f)
    (h : RsNew c s e lo hi w a l) (h' : OwnIn d t f lo' hi' w v m) (h1 : lo ≤ hi) (h2 : lo' ≤ hi') :
    ∃ x1 y1 x2 y2, (lo ≤ x1 ∧ x1 ≤ y1 ∧ y1 ≤ hi) ∧ (lo' ≤ x2 ∧ x2 ≤ y2 ∧ y2 ≤ hi') ∧ (y1 ≤ x2 ∨ y2 ≤ x1) ∧ RsNew c s e x1 y1 w a l ∧ OwnIn d t f x2 y2 w v m := by
  obtain ⟨⟨k0, k1⟩, k2⟩ := h'
  rcases k1 with ⟨rfl, k1⟩ | ⟨g, cap, cur, rfl, hb, hg, r⟩
  · have q : ∀ x y, OwnIn d t f x y w (.slice none 0 0) m := fun x y => ⟨⟨k0, .inl ⟨rfl, k1⟩⟩, fun k hk => by cases hk⟩
    by_cases z : hi ≤ lo'
    · exact ⟨lo, hi, lo', lo', by omega, by omega, .inl z, h, q _ _⟩
    · rcases h with rfl | ⟨B, o, row, rfl, g1, g2, r⟩
      · by_cases z2 : lo ≤ lo'
        · exact ⟨lo, lo, lo', lo', by omega, by omega, .inl z2, .inl rfl, q _ _⟩
        · exact ⟨lo, lo, lo', lo', by omega, by omega, .inr (by omega), .inl rfl, q _ _⟩
      · by_cases z2 : B < lo'
        · exact ⟨B, B + 1, lo', lo', by omega, by omega, .inl z2, .inr ⟨B, o, row, rfl, Nat.le_refl _, Nat.lt_succ_self _, r⟩, q _ _⟩
        · exact ⟨B, B + 1, lo', lo', by omega, by omega, .inr (by omega), .inr ⟨B, o, row, rfl, Nat.le_refl _, Nat.lt_succ_self _, r⟩, q _ _⟩
  · have hgh := k2 g rfl
    have q : OwnIn d t f g (g + 1) w (.slice (some ⟨g, 0, none⟩) m.length cap) m := ⟨⟨k0, .inr ⟨g, cap, cur, rfl, Nat.le_refl _, hg, r⟩⟩, fun k hk => by simp [Value.ownBlock] at hk; omega⟩
    rcases h with rfl | ⟨B, o, row, rfl, g1, g2, hB, r2⟩
    · by_cases z2 : lo ≤ g
      · exact ⟨lo, lo, g, g + 1, by omega, by omega, .inl z2, .inl rfl, q⟩
      · exact ⟨lo, lo, g, g + 1, by omega, by omega, .inr (by omega), .inl rfl, q⟩
    · have hBB : B ≠ g := by
        rintro rfl
        rw [hg] at hB
        injection hB with hB
        injection hB with _ ht _
        exact hne ht.symm
      exact ⟨B, B + 1, g, g + 1, by omega, by omega, by omega, .inr ⟨B, o, row, rfl, Nat.le_refl _, Nat.lt_succ_self _, hB, r2⟩, q⟩
theorem Clone.info_d : (Try.prog.info? 78).map (fun i => (i.zero, i.size, i.bytes)) = some (some (.agg #[.int .i64 0, .int .i64 0, .int .i64 0, .int .i64 0, .int .i64 0, .int .i64 0, .int .i64 0, .bool false, .int .i64 0, .int .i64 0]), 10, 80) := by kernel_rfl
set_option maxRecDepth 100000 in
set_option maxHeartbeats 4000000 in
theorem clone_d (a : Option Addr) (cap : Nat) (l : List Dv) (w : World) (h : RsIn dvL 10 w a l) (hlen : l.length ≤ 1048576) :
    Calls Try.prog 49 #[.slice a l.length cap] w fun e w' => ∃ v, e = .returned v ∧ OwnIn dvL 10 78 w.heap.size w'.heap.size w' v l ∧ Below w.heap.size w w' := by
  obtain ⟨i0, hi, hz0, hz1, hz2⟩ := info_parts Clone.info_d
  have HI0 := Lib.hid (And.intro hi (And.intro hz0 (And.intro hz1 hz2)))
  clear hi hz0 hz1 hz2
  obtain ⟨N, hN⟩ : ∃ N, l.length = N := ⟨_, rfl⟩
  have HNl := Lib.hid hN
  rw [hN] at hlen ⊢
  clear hN
  have HI := Lib.hid h
  clear h
  rcases a with _ | ⟨b, o, sp⟩
  · have hl : l = [] := by
      rcases HI.out with h | ⟨b, o', h', _⟩
      · exact h
      · cases h'
    obtain rfl : N = 0 := by rw [← HNl.out, hl]; rfl
    subst hl
    clear HI HNl
    have hq := fun W : World => Lib.run_eql_slice_nil (P := Try.prog) W 24 78 none 0 cap 0 0 Try.underlying24
    go_enter Try.func49, Try.ntmps49
    go_wp2
    go_ret
    exact ⟨_, rfl, OwnIn.none _, Below.refl _ _⟩
  have hq := fun W : World => Lib.run_eql_slice_nil (P := Try.prog) W 24 78 (some ⟨b, o, sp⟩) N cap 0 0 Try.underlying24
  go_enter Try.func49, Try.ntmps49
  go_wp2_with (first
    | (refine wpList_lit0 dvL 10 rfl 24 rfl 78 i0 Try.underlying24 HI0.out.1 ?_; intro w1 g hg1 hown1 hb1; have HO1 := Lib.hid hown1; have HB1 := Lib.hid hb1; have HG1 := Lib.hid hg1; clear hown1 hb1 hg1)
    | (at_builtin; refine wpList_append_rs dvL_len dvL_one rfl (.tmp 5) (.tmp 6) 24 rfl 78 i0 (.agg #[.int .i64 0, .int .i64 0, .int .i64 0, .int .i64 0, .int .i64 0, .int .i64 0, .int .i64 0, .bool false, .int .i64 0, .int .i64 0]) 80 Try.underlying24 HI0.out.1 HI0.out.2.1 HI0.out.2.2.1 HI0.out.2.2.2 rfl (by decide) g w1.heap.size _ [] rfl HO1.out (some ⟨b, o, sp⟩) cap l (by rw [HNl.out]; rfl) (HI.out.kept HB1.out) (by rw [HNl.out]; unfold maxLen; show 0 + N ≤ _; omega) (by rw [HNl.out]; show (0 + N) * 80 ≤ _; omega) (by have := HG1.out; have := HB1.out.size; omega) ?_; intro v2 w2 hown2 ho2; have HO2 := Lib.hid hown2; have HB2 := Lib.hid (show Below w.heap.size w w2 from ho2.below HB1.out (by rw [HG1.out]; exact Nat.le_refl _) HB1.out.size); clear hown2 ho2))
  go_ret
  refine ⟨_, rfl, ?_, HB2.out⟩
  have := HO2.out
  rw [List.nil_append, ← HG1.out] at this
  exact this
end Go.Proofs.Ytpolpkheaibonaa
/- One struct more in a row of the call's own: slices.Insert. No other memory is written. -/
namespace Go.Proofs.Ytpolpkheaibonaa
open Go.RowKit Go.Joins
set_option linter.unusedVariables false

theorem splice_blk {α : Type} (R C X : List α) (M K m : Nat) (hK : K ≤ M) (hR : M + m ≤ R.length) (hC : C.length = M) (hX : X.length = m) (hRC : R.take K = C.take K) :
    (splice (splice R (K + m) (C.drop K)) K X).take (M + m) = C.take K ++ (X ++ C.drop K) := by
  have e : M + m = (C.take K ++ (X ++ C.drop K)).length := by simp; omega
  have h1 : splice R (K + m) (C.drop K) = R.take (K + m) ++ (C.drop K ++ R.drop (M + m)) := by
    unfold splice
    rw [show K + m + (C.drop K).length = M + m by rw [List.length_drop]; omega]
  have h2 : splice (splice R (K + m) (C.drop K)) K X = (C.take K ++ (X ++ C.drop K)) ++ R.drop (M + m) := by
    rw [h1]
    unfold splice
    have l1 : (R.take (K + m)).length = K + m := by rw [List.length_take]; omega
    rw [List.take_append_of_le_length (by omega), List.take_take, Nat.min_eq_left (by omega), hRC]
    rw [show K + X.length = (R.take (K + m)).length by rw [l1, hX], List.drop_left]
    simp
  rw [h2, e]
  exact List.take_left' rfl
theorem splice_blk' {α : Type} (R C X : List α) (M K m : Nat) (hK : K ≤ M) (hR : M + m ≤ R.length) (hC : C.length = M) (hX : X.length = m) (hRC : R.take K = C.take K) :
    (splice (splice R K X) (K + m) (C.drop K)).take (M + m) = C.take K ++ (X ++ C.drop K) := by
  have e : M + m = (C.take K ++ (X ++ C.drop K)).length := by simp; omega
  have h1 : splice R K X = (C.take K ++ X) ++ R.drop (K + m) := by
    unfold splice
    rw [hRC, hX, List.append_assoc]
  have l1 : (C.take K ++ X).length = K + m := by simp; omega
  have h2 : splice (splice R K X) (K + m) (C.drop K) = (C.take K ++ (X ++ C.drop K)) ++ ((C.take K ++ X) ++ R.drop (K + m)).drop (K + m + (C.drop K).length) := by
    rw [h1]
    conv => lhs; unfold splice
    rw [List.take_left' l1]
    simp
  rw [h2, e]
  exact List.take_left' rfl
section
variable {P : Program} {ops : Array Oper} {rest : List Oper} {o : Oper} {a : Act} {w : World} {Q : Exit → Act → World → Prop}
theorem run_copy_rowS (w : World) (dT sT ty elem : TypeId) (g o dLen dCap : Nat) (a : Addr) (sLen sCap size : Nat) (cur : Array Value) (t : TypeId) (cs : List Value)
    (hu : P.underlying dT = some (.slice elem)) (hs : (P.info? elem).map (·.size) = some size)
    (hg : w.heap[g]? = some (.cells cur t (0, 0))) (hn : cs.length = Nat.min sLen dLen * size)
    (hsrc : ∀ j v, cs[j]? = some v → w.cell? (a.add j) = some v) (hfit : o + cs.length ≤ cur.size) (h1 : ∀ v ∈ cs, v.oneCell' = true) :
    (Builtin.copy_ #[dT, sT] ty #[.slice (some ⟨g, o, none⟩) dLen dCap, .slice (some a) sLen sCap]).run P w =
      .ok (goInt (Nat.min sLen dLen)) (w.setRow g (cur.toList.take o ++ cs ++ cur.toList.drop (o + cs.length)).toArray) := by
  have hl := run_loadCells_list (P := P) w a cs hsrc
  have hst := run_storeCells_at P g o t cs 0 cur w hg (by simpa using hfit) h1
  rw [hn] at hl
  cases hq : P.info? elem with
  | none => simp [hq] at hs
  | some i =>
    have hi : i.size = size := by simpa [hq] using hs
    simp [Builtin.copy_, run_underlying hu, Builtin.lenOf, Builtin.firstCells, sizeOf, typeInfo, hq, hi, hl, hst]
theorem step_copy_s {K : Act → World → Prop} {E : Prop} (hgd : o.guard = none) (d s : Operand) (dT sT : TypeId) (ho : o.op = .call { callee := .builtin .copy, args := #[d, s], argTypes := #[dT, sT] })
    (elem : TypeId) (size : Nat) (hu : P.underlying dT = some (.slice elem)) (hsz : (P.info? elem).map (·.size) = some size) (dLen dCap sLen sCap g off : Nat) (ad : Addr) (hd : a.eval d = .slice (some ⟨g, off, none⟩) dLen dCap) (hs : a.eval s = .slice (some ad) sLen sCap)
    (cur : List Value) (t : TypeId) (hg : w.heap[g]? = some (.cells cur.toArray t (0, 0))) (cs : List Value) (hn : cs.length = Nat.min sLen dLen * size)
    (hsrc : ∀ j v, cs[j]? = some v → w.cell? (ad.add j) = some v) (hfit : off + cs.length ≤ cur.length) (h1 : ∀ v ∈ cs, v.oneCell' = true)
    (h : ∀ w', w'.heap[g]? = some (.cells (splice cur off cs).toArray t (0, 0)) → Out g (g + 1) w w' → K (a.put o.dst (goInt (Nat.min sLen dLen))) w') :
    if Region.wanted o (yielded ops a.tmps) = true then Oper.wp P o a w K Q else E := by
  have hw : Region.wanted o (yielded ops a.tmps) = true := by simp [Region.wanted, hgd]
  rw [if_pos hw]
  have hrun := run_copy_rowS (P := P) w dT sT o.type elem g off dLen dCap ad sLen sCap size cur.toArray t cs hu hsz hg hn hsrc (by simpa using hfit) h1
  unfold Oper.wp
  simp [execOp, ho, resolve, invoke, builtin, hd, hs, hrun, Result.andThen]
  exact h _ (by simpa [splice] using setRow_heap w g _ _ t _ hg) (Out.of_setRow w g _)
theorem wpList_copy_s (hgd : o.guard = none) (d s : Operand) (dT sT : TypeId) (ho : o.op = .call { callee := .builtin .copy, args := #[d, s], argTypes := #[dT, sT] })
    (elem : TypeId) (size : Nat) (hu : P.underlying dT = some (.slice elem)) (hsz : (P.info? elem).map (·.size) = some size) (dLen dCap sLen sCap g off : Nat) (ad : Addr) (hd : a.eval d = .slice (some ⟨g, off, none⟩) dLen dCap) (hs : a.eval s = .slice (some ad) sLen sCap)
    (cur : List Value) (t : TypeId) (hg : w.heap[g]? = some (.cells cur.toArray t (0, 0))) (cs : List Value) (hn : cs.length = Nat.min sLen dLen * size)
    (hsrc : ∀ j v, cs[j]? = some v → w.cell? (ad.add j) = some v) (hfit : off + cs.length ≤ cur.length) (h1 : ∀ v ∈ cs, v.oneCell' = true)
    (h : ∀ w', w'.heap[g]? = some (.cells (splice cur off cs).toArray t (0, 0)) → Out g (g + 1) w w' → wpList P ops Q rest (a.put o.dst (goInt (Nat.min sLen dLen))) w') : wpList P ops Q (o :: rest) a w :=
  wpList_plain hgd fun K hK => by
    have hw : Region.wanted o (yielded ops a.tmps) = true := by simp [Region.wanted, hgd]
    have := step_copy_s (E := False) (K := K) (Q := Q) (ops := ops) hgd d s dT sT ho elem size hu hsz dLen dCap sLen sCap g off ad hd hs cur t hg cs hn hsrc hfit h1 fun w' h1 h2 => hK _ _ (h w' h1 h2)
    rwa [if_pos hw] at this
/-- append of so many zeros where there is no room: a new row. -/
theorem wpList_append_zeros_s (hgd : o.guard = none) (s x : Operand) (t tn : TypeId) (ho : o.op = .call { callee := .builtin .append, args := #[s, x], argTypes := #[t, tn] })
    (e : TypeId) (i : TypeInfo) (z : Value) (size bytes : Nat) (kn : IntKind) (ht : P.underlying t = some (.slice e)) (htn : P.underlying tn = some (.int kn)) (hi : P.info? e = some i) (hz : i.zero = some z) (hsz : i.size = size) (hby : i.bytes = bytes) (hzs : z.cells.size = size) (h0s : 0 < size) (h0b : 0 < bytes)
    (g off n c : Nat) (hs : a.eval s = .slice (some ⟨g, off, none⟩) n c) (k : Nat) (hx : a.eval x = .int .i64 (k : Int)) (olds : List Value) (hl : olds.length = n * size) (hold : ∀ j v, olds[j]? = some v → w.cell? ⟨g, off + j, none⟩ = some v)
    (h0 : 0 < k) (hg : c < n + k) (hb : (n + k) * bytes ≤ 140737488355328)
    (h : ∀ w' R G (row : List Value), w.heap.size = R → w'.heap[R]? = some (.cells row.toArray e (0, 0)) → Below w.heap.size w w' → n + k ≤ G → G ≤ maxLen → row.length = G * size → row.take (n * size) = olds →
      wpList P ops Q rest (a.put o.dst (.slice (some ⟨R, 0, none⟩) (n + k) G)) w') : wpList P ops Q (o :: rest) a w := by
  have hf : (Builtin.firstCells i.size n (.slice (some ⟨g, off, none⟩) n c)).run P w.drew = .ok olds.toArray w.drew := by
    rw [hsz]
    exact run_firstCells_some w.drew size n ⟨g, off, none⟩ n c olds hl (fun j v hj => by
      have hadd : (⟨g, off, none⟩ : Addr).add j = ⟨g, off + j, none⟩ := by unfold Addr.add; split <;> simp_all
      rw [hadd]
      exact hold j v hj)
  have hle63 : n + k ≤ 140737488355328 := Nat.le_trans (Nat.le_mul_of_pos_right (n + k) h0b) hb
  have hkb : k * bytes ≤ (n + k) * bytes := Nat.mul_le_mul_right bytes (by omega)
  have hr := Lib.run_append_grow_zeros (P := P) w t tn o.type e i _ .i64 kn ht htn hi hz (some ⟨g, off, none⟩) n c olds hf k h0 (by omega) hg (by omega) (by rw [hby]; omega) (by rw [hby]; exact growslice_fits hg hb)
  have hge := grownCap_ge w (n + k) c e
  have hle := grownCap_le_maxLen w (n + k) c e (by unfold maxLen; omega)
  refine Lib.wpList_append_run w hgd s x t tn ho _ _ hs hx _ _ hr ?_
  refine h _ _ (grownCap w (n + k) c e) (olds ++ (Builtin.zeroCells z.cells k).toList ++ (Builtin.zeroCells z.cells (grownCap w (n + k) c e - (n + k))).toList) rfl ?_ ?_ hge hle ?_ ?_
  · rw [show (olds ++ (Builtin.zeroCells z.cells k).toList ++ (Builtin.zeroCells z.cells (grownCap w (n + k) c e - (n + k))).toList).toArray = olds.toArray ++ Builtin.zeroCells z.cells k ++ Builtin.zeroCells z.cells (grownCap w (n + k) c e - (n + k)) from by apply Array.toList_inj.1; simp]
    exact heap_alloc_new w.drew _
  · exact (Below.refl _ _).drew.alloc (Nat.le_refl _) _
  · have e1 : ∀ m, (Builtin.zeroCells z.cells m).toList.length = m * size := fun m => by rw [← hzs]; simp [Builtin.zeroCells]
    rw [List.length_append, List.length_append, hl, e1, e1, ← Nat.add_mul, ← Nat.add_mul]
    congr 1
    omega
  · rw [List.append_assoc, List.take_left' hl]
end
/-- A row that is known whole, as items of the call's own. -/
theorem RsNew.of_row {α : Type} {c : α → List Value} {s : Nat} {e : TypeId} (hs : ∀ x, (c x).length = s) {lo hi g : Nat} {w : World} {cur : List Value} {L : List α} (hg : w.heap[g]? = some (.cells cur.toArray e (0, 0))) (ht : cur.take (L.length * s) = L.flatMap c) (h1 : lo ≤ g) (h2 : g < hi) : RsNew c s e lo hi w (some ⟨g, 0, none⟩) L := by
  have hlen : L.length * s ≤ cur.length := by
    have := congrArg List.length ht
    rw [List.length_take, flat_len c s hs] at this
    omega
  refine .inr ⟨g, 0, _, rfl, h1, h2, hg, by simpa using hlen, fun i x hx j v hv => ?_⟩
  have h3 := flat_at c s hs L i x hx j v hv
  have h4 := (List.getElem?_eq_some_iff.1 h3).1
  rw [flat_len c s hs] at h4
  rw [← ht, List.getElem?_take, if_pos h4] at h3
  rw [Nat.zero_add]
  simpa using h3
theorem flat_take {α : Type} (c : α → List Value) (s : Nat) (hs : ∀ x, (c x).length = s) : ∀ (l : List α) (k : Nat), (l.flatMap c).take (k * s) = (l.take k).flatMap c
  | l, 0 => by simp
  | [], k + 1 => by simp
  | x :: l, k + 1 => by
    rw [List.flatMap_cons, List.take_succ_cons, List.flatMap_cons, List.take_append, hs, flat_take' c s hs l k]
    rw [List.take_of_length_le (by rw [hs, Nat.succ_mul]; omega)]
where
  flat_take' {α : Type} (c : α → List Value) (s : Nat) (hs : ∀ x, (c x).length = s) (l : List α) (k : Nat) : (l.flatMap c).take ((k + 1) * s - s) = (l.take k).flatMap c := by
    rw [show (k + 1) * s - s = k * s by rw [Nat.succ_mul]; omega]
    exact flat_take c s hs l k
theorem flat_drop {α : Type} (c : α → List Value) (s : Nat) (hs : ∀ x, (c x).length = s) (l : List α) (k : Nat) (hk : k ≤ l.length) : (l.flatMap c).drop (k * s) = (l.drop k).flatMap c := by
  have h1 : l.flatMap c = (l.take k).flatMap c ++ (l.drop k).flatMap c := by rw [← List.flatMap_append, List.take_append_drop]
  have h2 : ((l.take k).flatMap c).length = k * s := by rw [flat_len c s hs, List.length_take, Nat.min_eq_left hk]
  rw [h1, List.drop_left' h2]
theorem flat_mid {α : Type} (c : α → List Value) (l m : List α) (x : α) : l.flatMap c ++ (c x ++ m.flatMap c) = (l ++ x :: m).flatMap c := by
  rw [List.flatMap_append, List.flatMap_cons]
section
variable {P : Program} {ops : Array Oper} {rest : List Oper} {o : Oper} {a : Act} {w : World} {Q : Exit → Act → World → Prop}
/-- append of one item: in its place, or in a new one. -/
theorem wpList_append_in {α : Type} {c : α → List Value} {size : Nat} (hc : ∀ x, (c x).length = size) (hone : ∀ x, ∀ u ∈ c x, u.oneCell' = true) (hgd : o.guard = none) (s x : Operand) (t : TypeId)
    (ho : o.op = .call { callee := .builtin .append, args := #[s, x], argTypes := #[t, t] })
    (e : TypeId) (i : TypeInfo) (z : Value) (bytes : Nat) (ht : P.underlying t = some (.slice e)) (hi : P.info? e = some i) (hz : i.zero = some z)
    (hsize : i.size = size) (hby : i.bytes = bytes) (hsz : 0 < size) (hbz : 0 < bytes)
    (lo hi' : Nat) (v : Value) (l : List α) (hs : a.eval s = v) (hown : OwnIn c size e lo hi' w v l) (hlh : lo ≤ hi')
    (b : Nat) (y : α) (hx : a.eval x = .slice (some ⟨b, 0, none⟩) 1 1) (hin : w.heap[b]? = some (.cells (c y).toArray e (0, 0)))
    (hbytes : (l.length + 1) * bytes ≤ 140737488355328)
    (h : ∀ w' a' c' l2 h2, (l ++ [y]).length ≤ c' → ((lo ≤ l2 ∧ h2 ≤ hi') ∨ (w.heap.size ≤ l2 ∧ h2 ≤ w'.heap.size)) → l2 ≤ h2 → RsNew c size e l2 h2 w' a' (l ++ [y]) → Out lo hi' w w' →
      wpList P ops Q rest (a.put o.dst (.slice a' (l.length + 1) c')) w') : wpList P ops Q (o :: rest) a w := by
  have h63 : l.length + 1 ≤ 140737488355328 := Nat.le_trans (Nat.le_mul_of_pos_right _ hbz) hbytes
  have hlen1 : (l ++ [y]).length = l.length + 1 := by simp
  have hy1 : (c y).length = 1 * size := by rw [hc]; omega
  have hnews : ∀ j u, (c y)[j]? = some u → w.cell? ((⟨b, 0, none⟩ : Addr).add j) = some u := fun j u hj => by
    rw [show (⟨b, 0, none⟩ : Addr).add j = ⟨b, j, none⟩ by unfold Addr.add; split <;> simp_all, cell_of_row w b j _ _ (0, 0) hin]
    simpa using hj
  have hfm : (l ++ [y]).flatMap c = l.flatMap c ++ c y := by simp
  have hfl := flat_len c size hc l
  -- the way that makes a new row
  have grow : ∀ (base : Option Addr) (cap : Nat), v = .slice base l.length cap → (Builtin.firstCells i.size l.length (.slice base l.length cap)).run P w.drew = .ok (l.flatMap c).toArray w.drew → cap < l.length + 1 → wpList P ops Q (o :: rest) a w := fun base cap hv hold hg => by
    have hsrc : Src P i.size t (.slice (some ⟨b, 0, none⟩) 1 1) 1 (c y) w := by
      rw [hsize]
      exact Src.ofSlice w ht ⟨b, 0, none⟩ 1 1 _ hy1 hnews (hone y)
    have hr := run_append_grow_src w t t o.type e i z ht hi hz base l.length cap (l.flatMap c) hold _ _ _ hsrc hg (by omega) (growslice_fits hg (by rw [hby]; exact hbytes))
    refine wpList_plain hgd fun K hK => ?_
    have hh := heap_alloc_new w.drew (.cells ((l.flatMap c ++ c y).toArray ++ Builtin.zeroCells z.cells (grownCap w (l.length + 1) cap e - (l.length + 1))) e)
    have hge := grownCap_ge w (l.length + 1) cap e
    unfold Oper.wp execOp
    simp only [ho, resolve, invoke, builtin, Sem.run_bind, Sem.run_pure, Result.andThen_ok, List.map_toArray, List.map_cons, List.map_nil, hs, hv, hx, hr]
    refine hK _ _ (h _ _ _ w.heap.size (w.heap.size + 1) (by rw [hlen1]; exact hge) (.inr ⟨Nat.le_refl _, by simp⟩) (Nat.le_succ _) (.inr ⟨w.heap.size, 0, _, rfl, Nat.le_refl _, Nat.lt_succ_self _, hh, ?_, fun i' x' hx' j u hu => ?_⟩) (Out.of_below ((Below.refl _ _).drew.alloc (Nat.le_refl _) _)))
    · rw [hlen1, Array.size_append, List.size_toArray, List.length_append, hfl, hc, Nat.succ_mul]
      omega
    · have h1 := flat_at c size hc (l ++ [y]) i' x' hx' j u hu
      rw [hfm] at h1
      have h2 := (List.getElem?_eq_some_iff.1 h1).1
      rw [Nat.zero_add, Array.getElem?_append_left (by simpa using h2)]
      simpa using h1
  obtain ⟨⟨k0, k1⟩, k2⟩ := hown
  rcases k1 with ⟨rfl, hn⟩ | ⟨g, cap, cur, rfl, hb', hg, hcap, hcm, hcs, htk⟩
  · have hl : l = [] := List.eq_nil_of_length_eq_zero hn
    subst hl
    exact grow none 0 rfl (run_firstCells_none w.drew i.size 0 0 0) (by simp)
  · by_cases hroom : l.length + 1 ≤ cap
    · have hlm : l.length * size + size ≤ cap * size := by rw [← Nat.succ_mul]; exact Nat.mul_le_mul_right size hroom
      have hfit : l.length * i.size + (c y).length ≤ cur.size := by rw [hsize, hc, hcs]; exact hlm
      have hr := run_append_room (P := P) w t o.type e i ht hi g l.length cap cur hg ⟨b, 0, none⟩ 1 1 (c y) (by rw [hsize]; exact hy1) hnews (hone y) hroom hfit
      refine wpList_plain hgd fun K hK => ?_
      unfold Oper.wp execOp
      simp only [ho, resolve, invoke, builtin, Sem.run_bind, Sem.run_pure, Result.andThen_ok, List.map_toArray, List.map_cons, List.map_nil, hs, hx, hr]
      have hgh := k2 g rfl
      refine hK _ _ (h _ _ _ lo hi' (by rw [hlen1]; exact hroom) (.inl ⟨Nat.le_refl _, Nat.le_refl _⟩) hlh (RsNew.of_row hc (setRow_heap w g cur _ e _ hg) ?_ hb' hgh) ?_)
      · rw [hlen1, hfm, hsize, htk]
        have e1 : (l.length + 1) * size = (l.flatMap c ++ c y).length := by rw [List.length_append, hfl, hc, Nat.succ_mul]
        rw [e1]
        exact List.take_left' rfl
      · have := Out.of_setRow w g (cur.toList.take (l.length * i.size) ++ c y ++ cur.toList.drop (l.length * i.size + (c y).length)).toArray
        exact ⟨this.os, this.tape, this.output, this.size, fun k hk h3 => this.block k hk (by omega)⟩
    · refine grow (some ⟨g, 0, none⟩) cap rfl ?_ (by omega)
      rw [hsize]
      refine run_firstCells_some w.drew size l.length ⟨g, 0, none⟩ l.length cap (l.flatMap c) hfl (fun j u hj => ?_)
      have hadd : (⟨g, 0, none⟩ : Addr).add j = ⟨g, j, none⟩ := by unfold Addr.add; split <;> simp_all
      rw [hadd, cell_of_row w.drew g j cur e (0, 0) hg]
      rw [← htk, List.getElem?_take] at hj
      split at hj
      · simpa using hj
      · cases hj
end
/-- A row of the call's own, in which one item more stands. -/
def InsOut {α : Type} (c : α → List Value) (s : Nat) (e : TypeId) (lo hi : Nat) (L : List α) (w : World) (en : Ending) (w' : World) : Prop :=
  ∃ a' c' l2 h2, en = .returned (.slice a' L.length c') ∧ L.length ≤ c' ∧ ((lo ≤ l2 ∧ h2 ≤ hi) ∨ (w.heap.size ≤ l2 ∧ h2 ≤ w'.heap.size)) ∧ l2 ≤ h2 ∧ RsNew c s e l2 h2 w' a' L ∧ Out lo hi w w'
theorem Ins.size_d : (Try.prog.info? 78).map (·.size) = some 10 := by kernel_rfl
set_option maxRecDepth 100000 in
set_option maxHeartbeats 4000000 in
/-- At the end. -/
theorem insert_end_d (lo hi : Nat) (v : Value) (l : List Dv) (vb : Nat) (x : Dv) (w : World) (h : OwnIn dvL 10 78 lo hi w v l) (hx : w.heap[vb]? = some (.cells (dvL x).toArray 78 (0, 0)))
    (hlen : l.length ≤ 1000) (hlh : lo ≤ hi) (hhi : hi ≤ w.heap.size) :
    Calls Try.prog 52 #[v, .int .i64 (l.length : Int), .slice (some ⟨vb, 0, none⟩) 1 1] w (InsOut dvL 10 78 lo hi (l ++ [x]) w) := by
  obtain ⟨i0, hi0, hz0, hz1, hz2⟩ := info_parts Clone.info_d
  have HI0 := Lib.hid (And.intro hi0 (And.intro hz0 (And.intro hz1 hz2)))
  clear hi0 hz0 hz1 hz2
  have HX := Lib.hid hx
  obtain ⟨a, cap, rfl, hcap, hnew⟩ := h.new dvL_len
  have HH := Lib.hid h
  have HL1 := Lib.hid (show (l ++ [x]).length = l.length + 1 by simp)
  obtain ⟨N, hN⟩ : ∃ N, l.length = N := ⟨_, rfl⟩
  have HN := Lib.hid hN
  rw [hN] at HH hlen hcap HL1 ⊢
  clear hN h hx hnew
  go_enter Try.func52, Try.ntmps52
  go_wp2_with (at_builtin; refine wpList_append_in dvL_len dvL_one rfl (.tmp 23) (.tmp 24) 24 rfl 78 i0 (.agg #[.int .i64 0, .int .i64 0, .int .i64 0, .int .i64 0, .int .i64 0, .int .i64 0, .int .i64 0, .bool false, .int .i64 0, .int .i64 0]) 80 Try.underlying24 HI0.out.1 HI0.out.2.1 HI0.out.2.2.1 HI0.out.2.2.2 (by decide) (by decide) lo hi _ l rfl HH.out hlh vb x rfl HX.out (by rw [HN.out]; omega) ?_; intro w2 a2 c2 l2 h2 hc2 hsp hl2 hn2 ho2; rw [HN.out]; have HC2 := Lib.hid hc2; have HO2 := Lib.hid ho2; have HN2 := Lib.hid hn2; have HSp := Lib.hid hsp; have HL2 := Lib.hid hl2; clear hc2 ho2 hn2 hsp hl2)
  all_goals
    go_ret
    exact ⟨_, _, l2, h2, by rw [HL1.out]; rfl, HC2.out, HSp.out, HL2.out, HN2.out, HO2.out⟩
set_option maxRecDepth 100000 in
set_option maxHeartbeats 8000000 in
/-- Ahead of others, where there is room. -/
theorem insert_room_d (g cap N k : Nat) (cur : List Value) (l : List Dv) (vb : Nat) (x : Dv) (w : World) (hg : w.heap[g]? = some (.cells cur.toArray 78 (0, 0))) (hcur : cur.length = cap * 10) (hC : cur.take (N * 10) = l.flatMap dvL) (hN : l.length = N)
    (hx : w.heap[vb]? = some (.cells (dvL x).toArray 78 (0, 0))) (hne : vb ≠ g) (hk : k < N) (hroom : N + 1 ≤ cap) (hcm : cap ≤ maxLen) (hlen : N ≤ 1000) :
    Calls Try.prog 52 #[.slice (some ⟨g, 0, none⟩) N cap, .int .i64 (k : Int), .slice (some ⟨vb, 0, none⟩) 1 1] w fun e w' => e = .returned (.slice (some ⟨g, 0, none⟩) (N + 1) cap) ∧ RsNew dvL 10 78 g (g + 1) w' (some ⟨g, 0, none⟩) (l.take k ++ x :: l.drop k) ∧ Out g (g + 1) w w' := by
  obtain ⟨i0, hi, hz0, hz1, hz2⟩ := info_parts Clone.info_d
  have hcm' : cap ≤ 9223372036854775807 := by unfold maxLen at hcm; omega
  have HG := Lib.hid hg
  have HX := Lib.hid hx
  have lg : g < w.heap.size := (Array.getElem?_eq_some_iff.1 hg).1
  have hfl := flat_len dvL 10 dvL_len l
  rw [hN] at hfl
  have hdl : ((l.drop k).flatMap dvL).length = (N - k) * 10 := by rw [flat_len dvL 10 dvL_len, List.length_drop, hN]
  have hov : ∀ lb cb, (callFunc 97 #[.slice (some ⟨vb, 0, none⟩) 1 1, .slice (some ⟨g, (k + 1) * 10, none⟩) lb cb]).run Try.prog w = .ok (.value (.bool false)) w := fun lb cb => by
    rw [run_callFunc_extern Try.func97 (by kernel_rfl) (by kernel_rfl) (by kernel_rfl) (e := Extern.SlicesOverlaps.overlaps #[24, 24] #[4]) (by kernel_rfl),
      Lib.run_overlaps_apart w 24 4 78 Try.underlying24 10 (fun W => by simp [sizeOf, typeInfo, hi, hz1]) ⟨vb, 0, none⟩ ⟨g, (k + 1) * 10, none⟩ 1 1 lb cb hne 78 78 10 (cap * 10) (by simp [World.shape?, hx, dvL]) (by simp [World.shape?, hg, hcur]) (by omega) (frozen_of_row w vb 0 _ _ hx) (frozen_of_row w vb 10 _ _ hx)]
    rfl
  have hw1 : IntKind.i64.wrap ((N : Int) + 1) = (N : Int) + 1 := IntWalk.i64_in _ (by omega)
  have hw2 : IntKind.i64.wrap ((k : Int) + 1) = (k : Int) + 1 := IntWalk.i64_in _ (by omega)
  clear hi hz0 hz1 hz2 i0
  have hz1 : ((k : Int) == (N : Int)) = false := by simp; omega
  have hz2 : decide ((cap : Int) < (N : Int) + 1) = false := decide_eq_false (by omega)
  have htn : ((k : Int) + 1).toNat = k + 1 := by omega
  have htm : ((N : Int) + 1).toNat = N + 1 := by omega
  have hb1 : (0 : Int) ≤ (k : Int) + 1 := by omega
  have hb2 : (k : Int) + 1 ≤ (N : Int) + 1 := by omega
  have hb3 : (k : Int) ≤ (N : Int) + 1 := by omega
  have hb4 : (k : Int) ≤ (N : Int) := by omega
  have hb5 : ¬ (cap = k + 1) := by omega
  have hb6 : ¬ (cap = k) := by omega
  have hb7 : (0 : Int) ≤ (N : Int) + 1 := by omega
  have hb8 : (N : Int) + 1 ≤ (cap : Int) := by omega
  have HS := Lib.hid (splice_blk cur (l.flatMap dvL) (dvL x) (N * 10) (k * 10) 10 (by omega) (by omega) hfl (dvL_len x) (by rw [← hC, List.take_take, Nat.min_eq_left (by omega)]))
  have HDr := Lib.hid (flat_drop dvL 10 dvL_len l k (by omega))
  have HTk := Lib.hid (flat_take dvL 10 dvL_len l k)
  have HSL := Lib.hid (show (k + 1) * 10 + ((l.drop k).flatMap dvL).length ≤ cur.length by omega)
  have HN1 := Lib.hid (show ((l.drop k).flatMap dvL).length = Nat.min (N + 1 - k) (N + 1 - (k + 1)) * 10 by rw [hdl, show Nat.min (N + 1 - k) (N + 1 - (k + 1)) = N - k by simp only [Nat.min_def]; split <;> omega])
  have HN2 := Lib.hid (show (dvL x).length = Nat.min 1 (N + 1 - k) * 10 by rw [dvL_len, show Nat.min 1 (N + 1 - k) = 1 by simp only [Nat.min_def]; split <;> omega])
  have HSL2 := Lib.hid (show k * 10 + (dvL x).length ≤ (splice cur ((k + 1) * 10) ((l.drop k).flatMap dvL)).length by rw [length_splice cur ((k + 1) * 10) _ HSL.out, dvL_len]; omega)
  have HLn := Lib.hid (show (l.take k ++ x :: l.drop k).length = N + 1 by simp; omega)
  have HOne := Lib.hid (show ∀ v ∈ (l.drop k).flatMap dvL, v.oneCell' = true from fun v hv => by
    obtain ⟨y, _, hy⟩ := List.mem_flatMap.1 hv
    exact dvL_one y v hy)
  have HSrc := Lib.hid (show ∀ (W : World), W.heap[g]? = some (.cells cur.toArray 78 (0, 0)) → ∀ j u, ((l.drop k).flatMap dvL)[j]? = some u → W.cell? ((⟨g, k * 10, none⟩ : Addr).add j) = some u from fun W hW j u hj => by
    rw [show (⟨g, k * 10, none⟩ : Addr).add j = ⟨g, k * 10 + j, none⟩ by unfold Addr.add; split <;> simp_all, cell_of_row W g (k * 10 + j) _ _ (0, 0) hW]
    rw [← HDr.out, List.getElem?_drop, ← hC, List.getElem?_take] at hj
    split at hj
    · simpa using hj
    · cases hj)
  clear hg hx hC hN hcm hdl hfl hcur
  go_enter Try.func52, Try.ntmps52
  go_wp2_with fail
  go_region_law (refine step_copy_s rfl (.tmp 73) (.tmp 76) 24 24 rfl 78 10 Try.underlying24 Ins.size_d (N + 1 - (k + 1)) (cap - (k + 1)) (N + 1 - k) (cap - k) g ((k + 1) * 10) ⟨g, k * 10, none⟩ (by simp [Act.eval, Act.put]) (by simp [Act.eval, Act.put]) cur 78 HG.out ((l.drop k).flatMap dvL) HN1.out (HSrc.out _ HG.out) HSL.out HOne.out ?_; intro w2 hg2 ho2; have HG2 := Lib.hid hg2; have HO2 := Lib.hid ho2; clear hg2 ho2)
  have HX2 := Lib.hid (HO2.out.row1 HX.out hne)
  have HXs := Lib.hid (show ∀ j u, (dvL x)[j]? = some u → w2.cell? ((⟨vb, 0, none⟩ : Addr).add j) = some u from fun j u hj => by
    rw [show (⟨vb, 0, none⟩ : Addr).add j = ⟨vb, j, none⟩ by unfold Addr.add; split <;> simp_all, cell_of_row w2 vb j _ _ (0, 0) HX2.out]
    simpa using hj)
  go_wp2_with (refine wpList_copy_s rfl (.tmp 80) (.tmp 81) 24 24 rfl 78 10 Try.underlying24 Ins.size_d (N + 1 - k) (cap - k) 1 1 g (k * 10) ⟨vb, 0, none⟩ rfl rfl _ 78 HG2.out (dvL x) HN2.out HXs.out HSL2.out (dvL_one x) ?_; intro w3 hg3 ho3; have HG3 := Lib.hid hg3; have HO3 := Lib.hid ho3; clear hg3 ho3)
  go_ret
  refine ⟨rfl, RsNew.of_row dvL_len HG3.out ?_ (Nat.le_refl _) (Nat.lt_succ_self _), (Out.of_below (Below.refl _ _).drew).trans (HO2.out.trans HO3.out)⟩
  rw [HLn.out, ← HDr.out, show (N + 1) * 10 = N * 10 + 10 by omega, show (k + 1) * 10 = k * 10 + 10 by omega, HS.out, HTk.out, HDr.out, flat_mid]
set_option maxRecDepth 100000 in
set_option maxHeartbeats 8000000 in
/-- Ahead of others, where there is none: a new row. -/
theorem insert_grow_d (g cap N k : Nat) (cur : List Value) (l : List Dv) (vb : Nat) (x : Dv) (w : World) (hg : w.heap[g]? = some (.cells cur.toArray 78 (0, 0))) (hC : cur.take (N * 10) = l.flatMap dvL) (hN : l.length = N)
    (hx : w.heap[vb]? = some (.cells (dvL x).toArray 78 (0, 0))) (hk : k < N) (hroom : cap < N + 1) (hcap : N ≤ cap) (hlen : N ≤ 1000) :
    Calls Try.prog 52 #[.slice (some ⟨g, 0, none⟩) N cap, .int .i64 (k : Int), .slice (some ⟨vb, 0, none⟩) 1 1] w fun e w' => ∃ c' R, e = .returned (.slice (some ⟨R, 0, none⟩) (N + 1) c') ∧ N + 1 ≤ c' ∧ w.heap.size ≤ R ∧ R < w'.heap.size ∧ RsNew dvL 10 78 R (R + 1) w' (some ⟨R, 0, none⟩) (l.take k ++ x :: l.drop k) ∧ Below w.heap.size w w' := by
  obtain ⟨i0, hi, hz0, hz1, hz2⟩ := info_parts Clone.info_d
  have HI0 := Lib.hid (And.intro hi (And.intro hz0 (And.intro hz1 hz2)))
  have HX := Lib.hid hx
  have lv : vb < w.heap.size := (Array.getElem?_eq_some_iff.1 hx).1
  have lg : g < w.heap.size := (Array.getElem?_eq_some_iff.1 hg).1
  have hfl := flat_len dvL 10 dvL_len l
  rw [hN] at hfl
  have HFl := Lib.hid hfl
  have hw1 : IntKind.i64.wrap ((N : Int) + 1) = (N : Int) + 1 := IntWalk.i64_in _ (by omega)
  have hw2 : IntKind.i64.wrap ((k : Int) + 1) = (k : Int) + 1 := IntWalk.i64_in _ (by omega)
  have hw3 : IntKind.i64.wrap ((N : Int) + 1 - (k : Int)) = ((N + 1 - k : Nat) : Int) := by rw [IntWalk.i64_in _ (by omega)]; omega
  clear hi hz0 hz1 hz2
  have hz1 : ((k : Int) == (N : Int)) = false := by simp; omega
  have hz2 : decide ((cap : Int) < (N : Int) + 1) = true := decide_eq_true (by omega)
  have htn : ((k : Int) + 1).toNat = k + 1 := by omega
  have hb1 : (0 : Int) ≤ (k : Int) + 1 := by omega
  have hb2 : (k : Int) + 1 ≤ (N : Int) + 1 := by omega
  have hb3 : (k : Int) ≤ (N : Int) + 1 := by omega
  have hb4 : (k : Int) ≤ (N : Int) := by omega
  have hb6 : ¬ (cap = k) := by omega
  have hkc : (k : Int) ≤ (cap : Int) := by omega
  have HKN := Lib.hid (show k + (N + 1 - k) = N + 1 by omega)
  have HDr := Lib.hid (flat_drop dvL 10 dvL_len l k (by omega))
  have HTk := Lib.hid (flat_take dvL 10 dvL_len l k)
  have HTl := Lib.hid (show ((l.take k).flatMap dvL).length = k * 10 by rw [flat_len dvL 10 dvL_len, List.length_take, hN, Nat.min_eq_left (by omega)])
  have HDl := Lib.hid (show ((l.drop k).flatMap dvL).length = (N - k) * 10 by rw [flat_len dvL 10 dvL_len, List.length_drop, hN])
  have HLn := Lib.hid (show (l.take k ++ x :: l.drop k).length = N + 1 by simp; omega)
  have HCu := Lib.hid (show (N + 1) * 80 ≤ 140737488355328 by omega)
  have HOne := Lib.hid (show ∀ v ∈ (l.drop k).flatMap dvL, v.oneCell' = true from fun v hv => by
    obtain ⟨y, _, hy⟩ := List.mem_flatMap.1 hv
    exact dvL_one y v hy)
  have HAll := Lib.hid (show ∀ j v, (l.flatMap dvL)[j]? = some v → w.cell? ⟨g, j, none⟩ = some v from fun j v hj => by
    rw [cell_of_row w g j _ _ (0, 0) hg]
    rw [← hC, List.getElem?_take] at hj
    split at hj
    · simpa using hj
    · cases hj)
  have HOld := Lib.hid (show ∀ j v, ((l.take k).flatMap dvL)[j]? = some v → w.cell? ⟨g, 0 + j, none⟩ = some v from fun j v hj => by
    rw [Nat.zero_add]
    refine HAll.out j v ?_
    rw [← HTk.out, List.getElem?_take] at hj
    split at hj
    · exact hj
    · cases hj)
  clear hx hN hg hC hfl
  go_enter Try.func52, Try.ntmps52
  go_wp2_with (first
    | (at_builtin; refine wpList_append_zeros_s rfl (.tmp 34) (.tmp 39) 24 3 rfl 78 i0 (.agg #[.int .i64 0, .int .i64 0, .int .i64 0, .int .i64 0, .int .i64 0, .int .i64 0, .int .i64 0, .bool false, .int .i64 0, .int .i64 0]) 10 80 .i64 Try.underlying24 Try.underlying3 HI0.out.1 HI0.out.2.1 HI0.out.2.2.1 HI0.out.2.2.2 rfl (by decide) (by decide) g 0 k cap rfl (N + 1 - k) rfl ((l.take k).flatMap dvL) HTl.out HOld.out (by omega) (by omega) (by rw [HKN.out]; exact HCu.out) ?_; intro w2 R G row e2 hg2 b2 hG hGm hrl hrt; rw [HKN.out] at hG ⊢; have HG2 := Lib.hid hg2; have HB2 := Lib.hid b2; have HRl := Lib.hid hrl; have HRt := Lib.hid hrt; have HE2 := Lib.hid e2; have HGG := Lib.hid hG; have hGm' : G ≤ 9223372036854775807 := (by unfold maxLen at hGm; omega); clear hg2 b2 hrl hrt e2 hGm; have lg2 : g < R := (by have := HE2.out; omega); have lv2 : vb < R := (by have := HE2.out; omega); have hG1 : ¬ (G = k) := (by omega); have hG2 : ¬ (G = k + 1) := (by omega); have HN2 := Lib.hid (show (dvL x).length = Nat.min 1 (N + 1 - k) * 10 by rw [dvL_len, show Nat.min 1 (N + 1 - k) = 1 by simp only [Nat.min_def]; split <;> omega]); have HF2 := Lib.hid (show k * 10 + (dvL x).length ≤ row.length by rw [HRl.out, dvL_len]; omega); have HX2 := Lib.hid ((HB2.out.block vb lv).trans HX.out); have HXs := Lib.hid (show ∀ j u, (dvL x)[j]? = some u → w2.cell? ((⟨vb, 0, none⟩ : Addr).add j) = some u from fun j u hj => (by rw [show (⟨vb, 0, none⟩ : Addr).add j = ⟨vb, j, none⟩ by unfold Addr.add; split <;> simp_all, cell_of_row w2 vb j _ _ (0, 0) HX2.out]; simpa using hj)))
    | (refine wpList_copy_s rfl (.tmp 43) (.tmp 44) 24 24 rfl 78 10 Try.underlying24 Ins.size_d (N + 1 - k) (G - k) 1 1 R (k * 10) ⟨vb, 0, none⟩ rfl rfl row 78 HG2.out (dvL x) HN2.out HXs.out HF2.out (dvL_one x) ?_; intro w3 hg3 ho3; have HG3 := Lib.hid hg3; have HO3 := Lib.hid ho3; clear hg3 ho3))
  have HN3 := Lib.hid (show ((l.drop k).flatMap dvL).length = Nat.min (N - k) (N + 1 - (k + 1)) * 10 by rw [HDl.out, show Nat.min (N - k) (N + 1 - (k + 1)) = N - k by simp only [Nat.min_def]; split <;> omega])
  have HF3 := Lib.hid (show (k + 1) * 10 + ((l.drop k).flatMap dvL).length ≤ (splice row (k * 10) (dvL x)).length by rw [length_splice row (k * 10) _ HF2.out, HDl.out, HRl.out]; omega)
  have HSrc := Lib.hid (show ∀ j u, ((l.drop k).flatMap dvL)[j]? = some u → w3.cell? ((⟨g, k * 10, none⟩ : Addr).add j) = some u from fun j u hj => by
    rw [show (⟨g, k * 10, none⟩ : Addr).add j = ⟨g, k * 10 + j, none⟩ by unfold Addr.add; split <;> simp_all]
    have hsz : R < w2.heap.size := (Array.getElem?_eq_some_iff.1 HG2.out).1
    rw [HO3.out.cell (p := ⟨g, k * 10 + j, none⟩) (by show g < _; omega) (.inl lg2), HB2.out.cell (p := ⟨g, k * 10 + j, none⟩) lg]
    refine HAll.out _ u ?_
    rw [← HDr.out, List.getElem?_drop] at hj
    exact hj)
  go_region_law (refine step_copy_s rfl (.tmp 50) (.tmp 53) 24 24 rfl 78 10 Try.underlying24 Ins.size_d (N + 1 - (k + 1)) (G - (k + 1)) (N - k) (cap - k) R ((k + 1) * 10) ⟨g, k * 10, none⟩ (by simp [Act.eval, Act.put]) (by simp [Act.eval, Act.put]) _ 78 HG3.out ((l.drop k).flatMap dvL) HN3.out HSrc.out HF3.out HOne.out ?_; intro w4 hg4 ho4; have HG4 := Lib.hid hg4; have HO4 := Lib.hid ho4; clear hg4 ho4)
  go_wp2
  go_ret
  have hsz : R < w2.heap.size := (Array.getElem?_eq_some_iff.1 HG2.out).1
  have hS := splice_blk' row (l.flatMap dvL) (dvL x) (N * 10) (k * 10) 10 (by omega) (by rw [HRl.out]; have := HGG.out; omega) HFl.out (dvL_len x) (by rw [HRt.out, HTk.out])
  refine ⟨_, R, rfl, HGG.out, by rw [← HE2.out]; exact Nat.le_refl _, Nat.lt_of_lt_of_le hsz (Nat.le_trans HO3.out.size HO4.out.size), RsNew.of_row dvL_len HG4.out ?_ (Nat.le_refl _) (Nat.lt_succ_self _), ?_⟩
  · rw [HLn.out, ← HDr.out, show (N + 1) * 10 = N * 10 + 10 by omega, show (k + 1) * 10 = k * 10 + 10 by omega, hS, HTk.out, HDr.out, flat_mid]
  · exact (HO3.out.trans ((Out.of_below (Below.refl _ _).drew).trans HO4.out)).below HB2.out (by rw [HE2.out]; exact Nat.le_refl _) HB2.out.size
/-- One more at place k. -/
theorem insert_d (lo hi : Nat) (v : Value) (l : List Dv) (k : Nat) (vb : Nat) (x : Dv) (w : World) (h : OwnIn dvL 10 78 lo hi w v l) (hx : w.heap[vb]? = some (.cells (dvL x).toArray 78 (0, 0)))
    (hv : vb < lo ∨ hi ≤ vb) (hk : k ≤ l.length) (hlen : l.length ≤ 1000) (hlh : lo ≤ hi) (hhi : hi ≤ w.heap.size) :
    Calls Try.prog 52 #[v, .int .i64 (k : Int), .slice (some ⟨vb, 0, none⟩) 1 1] w (InsOut dvL 10 78 lo hi (l.take k ++ x :: l.drop k) w) := by
  rcases Nat.eq_or_lt_of_le hk with rfl | hk
  · have := insert_end_d lo hi v l vb x w h hx hlen hlh hhi
    rwa [List.take_length, List.drop_length]
  · have hL1 : (l.take k ++ x :: l.drop k).length = l.length + 1 := by simp; omega
    obtain ⟨⟨k0, k1⟩, k2⟩ := h
    rcases k1 with ⟨rfl, hn⟩ | ⟨g, cap, cur, rfl, hb, hg, hcap, hcm, hcs, htk⟩
    · omega
    · have hgh := k2 g rfl
      have hg' : w.heap[g]? = some (.cells cur.toList.toArray 78 (0, 0)) := by simpa using hg
      have htk' : cur.toList.take (l.length * 10) = l.flatMap dvL := htk
      by_cases hroom : l.length + 1 ≤ cap
      · refine (insert_room_d g cap l.length k cur.toList l vb x w hg' (by simpa using hcs) htk' rfl hx (by omega) hk hroom hcm hlen).mono ?_
        rintro e w' ⟨rfl, hn, ho⟩
        exact ⟨_, cap, g, g + 1, by rw [hL1], by rw [hL1]; exact hroom, .inl ⟨hb, hgh⟩, Nat.le_succ _, hn, ⟨ho.os, ho.tape, ho.output, ho.size, fun j hj h3 => ho.block j hj (by omega)⟩⟩
      · refine (insert_grow_d g cap l.length k cur.toList l vb x w hg' htk' rfl hx hk (by omega) hcap hlen).mono ?_
        rintro e w' ⟨c', R, rfl, hc', hR1, hR2, hn, hb2⟩
        exact ⟨_, c', R, R + 1, by rw [hL1], by rw [hL1]; exact hc', .inr ⟨hR1, hR2⟩, Nat.le_succ _, hn, Out.of_below hb2⟩
end Go.Proofs.Ytpolpkheaibonaa
/- Two Names held to be unlike, in a walk. -/
namespace Go.Proofs.Ytpolpkheaibonaa
open Go.RowKit
set_option linter.unusedVariables false

set_option maxRecDepth 100000 in
theorem quietNeqNm {o : Oper} {a : Act} {C : World → Prop} {W : World} (x y : Operand) (tt : TypeId)
    (ho : o.op = .binOp .neq 33 x y tt) (n0 n1 n2 n3 n4 n5 n6 m0 m1 m2 m3 m4 m5 m6 : Int) (n7 m7 : Bool)
    (hx : a.eval x = .agg #[.int .i64 n0, .int .i64 n1, .int .i64 n2, .int .i64 n3, .int .i64 n4, .int .i64 n5, .int .i64 n6, .bool n7]) (hy : a.eval y = .agg #[.int .i64 m0, .int .i64 m1, .int .i64 m2, .int .i64 m3, .int .i64 m4, .int .i64 m5, .int .i64 m6, .bool m7])
    (b : Bool) (hb : b = decide (n0 = m0 ∧ n1 = m1 ∧ n2 = m2 ∧ n3 = m3 ∧ n4 = m4 ∧ n5 = m5 ∧ n6 = m6 ∧ n7 = m7)) : o.quietAt Try.prog a C W (.bool (!b)) := by
  unfold Oper.quietAt execOp
  rw [ho]
  dsimp only
  rw [hx, hy]
  cases b
  · have hn : ¬ (n0 = m0 ∧ n1 = m1 ∧ n2 = m2 ∧ n3 = m3 ∧ n4 = m4 ∧ n5 = m5 ∧ n6 = m6 ∧ n7 = m7) := fun q => by
      rw [decide_eq_true q] at hb
      cases hb
    simp [go_sem]
    rw [if8_no hn]
    exact ⟨rfl, rfl⟩
  · have hn : n0 = m0 ∧ n1 = m1 ∧ n2 = m2 ∧ n3 = m3 ∧ n4 = m4 ∧ n5 = m5 ∧ n6 = m6 ∧ n7 = m7 := of_decide_eq_true hb.symm
    obtain ⟨rfl, rfl, rfl, rfl, rfl, rfl, rfl, rfl⟩ := hn
    simp [go_sem]
set_option maxRecDepth 100000 in
theorem wpList_neq_nm {ops : Array Oper} {rest : List Oper} {o : Oper} {a : Act} {w : World} {Q : Exit → Act → World → Prop} (hgd : Region.wanted o (yielded ops a.tmps) = true) (x y : Operand) (tt : TypeId)
    (ho : o.op = .binOp .neq 33 x y tt) (n0 n1 n2 n3 n4 n5 n6 m0 m1 m2 m3 m4 m5 m6 : Int) (n7 m7 : Bool)
    (hx : a.eval x = .agg #[.int .i64 n0, .int .i64 n1, .int .i64 n2, .int .i64 n3, .int .i64 n4, .int .i64 n5, .int .i64 n6, .bool n7]) (hy : a.eval y = .agg #[.int .i64 m0, .int .i64 m1, .int .i64 m2, .int .i64 m3, .int .i64 m4, .int .i64 m5, .int .i64 m6, .bool m7])
    (b : Bool) (hb : b = decide (n0 = m0 ∧ n1 = m1 ∧ n2 = m2 ∧ n3 = m3 ∧ n4 = m4 ∧ n5 = m5 ∧ n6 = m6 ∧ n7 = m7))
    (h : wpList Try.prog ops Q rest (a.put o.dst (.bool (!b))) w) : wpList Try.prog ops Q (o :: rest) a w :=
  BigFrame.wpList_want hgd fun K hK => by
    have hk := hK _ _ h
    unfold Oper.wp execOp
    rw [ho]
    dsimp only
    rw [hx, hy]
    cases b
    · have hn : ¬ (n0 = m0 ∧ n1 = m1 ∧ n2 = m2 ∧ n3 = m3 ∧ n4 = m4 ∧ n5 = m5 ∧ n6 = m6 ∧ n7 = m7) := fun q => by
        rw [decide_eq_true q] at hb
        cases hb
      simp [go_sem]
      rw [if8_no hn]
      exact hk
    · have hn : n0 = m0 ∧ n1 = m1 ∧ n2 = m2 ∧ n3 = m3 ∧ n4 = m4 ∧ n5 = m5 ∧ n6 = m6 ∧ n7 = m7 := of_decide_eq_true hb.symm
      obtain ⟨rfl, rfl, rfl, rfl, rfl, rfl, rfl, rfl⟩ := hn
      simp [go_sem]
      exact hk
end Go.Proofs.Ytpolpkheaibonaa
/- Who is there once one is heard, as lists: whom the loops keep, and where the new one stands. -/
namespace Go.Proofs.Ytpolpkheaibonaa
open Go.RowKit
set_option linter.unusedVariables false

theorem dvAt_get {l : List Dv} {i : Nat} (h : i < l.length) : l[i] = dvAt l i := by
  have := dvAt_some h
  rw [List.getElem?_eq_getElem h] at this
  exact Option.some.inj this
theorem dvs_rise {l : List Dv} (h : dvsB l = true) : l.Pairwise (fun a b => nmN a.n < nmN b.n) := by
  rw [List.pairwise_iff_getElem]
  intro i j hi hj hij
  rw [dvAt_get hi, dvAt_get hj]
  exact (behindB_of ((dvsAt_of ((dvsB_of h).2 j hj)).2 i hij)).1
theorem dvs_ok {l : List Dv} (h : dvsB l = true) : ∀ x ∈ l, dvOkB x = true := by
  intro x hx
  obtain ⟨i, hi, rfl⟩ := List.getElem_of_mem hx
  rw [dvAt_get hi]
  exact (dvsAt_of ((dvsB_of h).2 i hi)).1
/-- Where names rise, those that are less stand ahead. -/
theorem less_filter (n : Nm) : ∀ {l : List Dv}, l.Pairwise (fun a b => nmN a.n < nmN b.n) → (∀ x ∈ l, dvOkB x = true) → l.filter (fun d => nmLessB d.n n) = l.takeWhile (fun d => nmLessB d.n n)
  | [], _, _ => rfl
  | x :: r, hp, hok => by
    rw [List.pairwise_cons] at hp
    have ih := less_filter n hp.2 (fun y hy => hok y (List.mem_cons_of_mem _ hy))
    rw [List.filter_cons, List.takeWhile_cons]
    cases hx : nmLessB x.n n with
    | true => rw [if_pos rfl, if_pos rfl, ih]
    | false =>
      rw [if_neg (by simp)]
      refine List.filter_eq_nil_iff.2 fun y hy hyn => ?_
      have h1 := less_of hyn
      have h2 := hp.1 y hy
      unfold nmLessB at hyn
      simp only [Bool.and_eq_true] at hyn
      have := less_mk (dvOkB_of (hok x (List.mem_cons_self ..))).1 hyn.2.1 (by omega)
      rw [hx] at this
      cases this
theorem kept_rise {l : List Dv} (h : dvsB l = true) (ad : Int) (n : Nm) : (keptD l ad n).Pairwise (fun a b => nmN a.n < nmN b.n) := (dvs_rise h).filter _
theorem kept_ok {l : List Dv} (h : dvsB l = true) (ad : Int) (n : Nm) : ∀ x ∈ keptD l ad n, dvOkB x = true := fun x hx => dvs_ok h x ((List.mem_filter.1 hx).1)
theorem kept_len (l : List Dv) (ad : Int) (n : Nm) : (keptD l ad n).length ≤ l.length := List.length_filter_le _ _
theorem ahead_le (l : List Dv) (n : Nm) : aheadD l n ≤ l.length := by
  unfold aheadD
  exact (List.takeWhile_prefix _).length_le
theorem ahead_filter {l : List Dv} (h : dvsB l = true) (ad : Int) (n : Nm) : ((keptD l ad n).filter (fun d => nmLessB d.n n)).length = aheadD (keptD l ad n) n := by
  rw [less_filter n (kept_rise h ad n) (kept_ok h ad n)]
  rfl
theorem hearD_len (l : List Dv) (ad : Int) (n : Nm) : (hearD l ad n).length ≤ l.length + 1 := by
  unfold hearD
  have h1 := kept_len l ad n
  split
  · simp only [List.length_append, List.length_cons, List.length_take, List.length_drop]
    have := ahead_le (keptD l ad n) n
    omega
  · omega
theorem kept_take {l : List Dv} {k : Nat} (ad : Int) (n : Nm) (h : k < l.length) : keptD (l.take (k + 1)) ad n = keptD (l.take k) ad n ++ (if staysB ad n (dvAt l k) = true then [dvAt l k] else []) := by
  unfold keptD
  rw [List.take_add_one, dvAt_some h]
  simp only [Option.toList_some, List.filter_append]
  cases hs : staysB ad n (dvAt l k) <;> simp [hs]
/-- Where the look for the place stops. -/
theorem ahead_of {l : List Dv} {n : Nm} {k : Nat} (hk : k ≤ l.length) (hb : ∀ t, t < k → nmLessB (dvAt l t).n n = true) (ha : k < l.length → nmLessB (dvAt l k).n n = false) : aheadD l n = k := by
  unfold aheadD
  have h1 : l = l.take k ++ l.drop k := (List.take_append_drop k l).symm
  have h2 : ∀ x ∈ l.take k, nmLessB x.n n = true := by
    intro x hx
    obtain ⟨i, hi, rfl⟩ := List.getElem_of_mem hx
    rw [List.length_take] at hi
    rw [List.getElem_take, dvAt_get (by omega)]
    exact hb i (by omega)
  have h3 : (l.drop k).takeWhile (fun d => nmLessB d.n n) = [] := by
    rcases Nat.lt_or_ge k l.length with h | h
    · rw [List.drop_eq_getElem_cons h, List.takeWhile_cons, dvAt_get h, ha h]
      rfl
    · rw [List.drop_eq_nil_of_le h]
      rfl
  conv => lhs; rw [h1]
  rw [List.takeWhile_append_of_pos h2, h3, List.append_nil, List.length_take]
  omega
theorem hearD_no {l : List Dv} {ad : Int} {n : Nm} (h : ¬ (ad ≤ 251 ∧ (keptD l ad n).length < 8)) : keptD l ad n = hearD l ad n := by
  unfold hearD
  rw [if_neg h]
theorem hearD_yes {l : List Dv} {ad : Int} {n : Nm} {k : Nat} (h : ad ≤ 251 ∧ (keptD l ad n).length < 8) (hk : aheadD (keptD l ad n) n = k) : (keptD l ad n).take k ++ ⟨n, ad, 0⟩ :: (keptD l ad n).drop k = hearD l ad n := by
  unfold hearD
  rw [if_pos h, hk]
end Go.Proofs.Ytpolpkheaibonaa
/- Who is there once one is heard: the model's. The answer is in memory of its own. -/
namespace Go.Proofs.Ytpolpkheaibonaa
open Go.RowKit
set_option linter.unusedVariables false

theorem dv_nmL (x : Dv) : ∀ (j : Nat) v, ([.int .i64 x.n.u, .int .i64 x.n.m, .int .i64 x.n.i, .int .i64 x.n.f, .int .i64 x.n.c, .int .i64 x.n.s, .int .i64 x.n.y, .bool x.n.a] : List Value)[j]? = some v → (dvL x)[j]? = some v := by
  intro j v h
  rcases j with _ | _ | _ | _ | _ | _ | _ | _ | j
  all_goals first | exact h | simp at h
/-- A row that owns an item at least is written out. -/
theorem ownsRow_succ' {W : World} {base : Nat} {e : TypeId} {size : Nat} {v : Value} {k m : Nat} {xs : List Value} (hk : k = m + 1) (h : W.ownsRow base e size v k xs) : ∃ g cap, v = .slice (some ⟨g, 0, none⟩) k cap := by
  rcases h.2 with ⟨_, h0⟩ | ⟨g, cap, _, rfl, _⟩
  · omega
  · exact ⟨g, cap, rfl⟩
theorem OwnIn.rsIn {α : Type} {c : α → List Value} {s : Nat} {e : TypeId} {lo hi g : Nat} {w : World} {cap M : Nat} {l : List α} (h : OwnIn c s e lo hi w (.slice (Option.some ⟨g, 0, Option.none⟩) M cap) l) (hs : ∀ x, (c x).length = s) : RsIn c s w (Option.some ⟨g, 0, Option.none⟩) l := by
  obtain ⟨a', cap', h1, h2, h3⟩ := h.new hs
  simp only [Value.slice.injEq] at h1
  rw [h1.1]
  exact h3.ins
theorem OwnIn.cap_le {α : Type} {c : α → List Value} {s : Nat} {e : TypeId} {lo hi : Nat} {w : World} {a : Option Addr} {cap M : Nat} {l : List α} (h : OwnIn c s e lo hi w (.slice a M cap) l) (hs : ∀ x, (c x).length = s) : M ≤ cap := by
  obtain ⟨a', cap', h1, h2, h3⟩ := h.new hs
  simp only [Value.slice.injEq] at h1
  omega
theorem OwnIn.new' {α : Type} {c : α → List Value} {s : Nat} {e : TypeId} {lo hi : Nat} {w : World} {a : Option Addr} {cap M : Nat} {l : List α} (h : OwnIn c s e lo hi w (.slice a M cap) l) (hs : ∀ x, (c x).length = s) (hM : l.length = M) : ∃ a' cap', (.slice a M cap : Value) = .slice a' l.length cap' ∧ l.length ≤ cap' ∧ RsNew c s e lo hi w a' l := by
  obtain ⟨a', cap', h1, h2, h3⟩ := h.new hs
  exact ⟨a', cap', h1, h2, h3⟩
set_option maxRecDepth 100000 in
set_option maxHeartbeats 16000000 in
theorem l09Hear_any (a : Option Addr) (cap : Nat) (l : List Dv) (ad : Int) (n : Nm) (w : World) (h : RsIn dvL 10 w a l) (ht : dvsB l = true) (hn : okB n = true) (had : 0 ≤ ad) :
    Calls Try.prog 46 #[.slice a l.length cap, .int .i64 ad, nmV n] w (DvOut w (hearD l ad n)) := by
  unfold DvOut
  obtain ⟨i0, hi, hz0, hz1, hz2⟩ := info_parts DeviceTo.info
  have HI0 := Lib.hid hi
  have HI := Lib.hid h
  have HOK := Lib.hid (kept_ok ht ad n)
  have HLs := fun W d (hd : okB d = true) => Lib.hid (l04Less_any d n W hd hn)
  have h8 := (dvsB_of ht).1
  have HKN := Lib.hid (@hearD_no l ad n)
  have HKY := fun k => Lib.hid (@hearD_yes l ad n k)
  have HKL := Lib.hid (kept_len l ad n)
  have HKT := fun k hk => Lib.hid (@kept_take l k ad n hk)
  have HTL := Lib.hid (fun k => kept_len (l.take k) ad n)
  have HLessOk := fun d (hd : okB d = true) => Lib.hid (show nmLessB d n = decide (nmN d < nmN n) by unfold nmLessB; rw [hd, hn]; rfl)
  have HKall := Lib.hid (show ∀ k, l.length ≤ k → keptD (l.take k) ad n = keptD l ad n from fun k hk => by rw [List.take_of_length_le hk])
  obtain ⟨N, hN⟩ : ∃ N, l.length = N := ⟨_, rfl⟩
  have HN := Lib.hid hN
  rw [hN] at h8 ⊢
  have HK0 := Lib.hid (show ([] : List Dv) = keptD (l.take 0) ad n from rfl)
  clear h ht hN hi
  generalize hearD l ad n = RES at *
  obtain ⟨n0, n1, n2, n3, n4, n5, n6, n7⟩ := n
  unfold nmV at *
  dsimp only at *
  go_enter Try.func46, Try.ntmps46
  go_wp2_with (first
    | (refine wpList_box_h rfl 33 (.tmp 2) rfl #[.int .i64 n0, .int .i64 n1, .int .i64 n2, .int .i64 n3, .int .i64 n4, .int .i64 n5, .int .i64 n6, .bool n7] rfl ?_; intro w1 R1 e1 g1 b1; have HL1 := Lib.hid (show Lg w w1 [(R1, #[.int .i64 n0, .int .i64 n1, .int .i64 n2, .int .i64 n3, .int .i64 n4, .int .i64 n5, .int .i64 n6, .bool n7], 33)] [] from (Lg.first w).box e1 g1 b1); clear g1 b1 e1)
    | (refine wpList_lit0 dvL 10 rfl 24 rfl 78 i0 Try.underlying24 HI0.out ?_; intro w2 G e2 hown b2; subst e2; have HO0 := Lib.hid (show OwnIn dvL 10 78 w1.heap.size w2.heap.size w2 _ (keptD (l.take 0) ad ⟨n0, n1, n2, n3, n4, n5, n6, n7⟩) from (by rw [← HK0.out]; exact hown)); have HB0 := Lib.hid b2; clear hown b2))
  have HRB := Lib.hid (HL1.out.get (.head _))
  have HI1 := Lib.hid (HI.out.kept HL1.out.below)
  have hRlt : R1 < w1.heap.size := HL1.out.lt (.head _)
  go_loopw [7, 8] (fun v i wr => ∃ (k : Nat) (g c : Nat), i = .int .i64 (k : Int) ∧ .slice (some ⟨g, 0, none⟩) (keptD (l.take k) ad ⟨n0, n1, n2, n3, n4, n5, n6, n7⟩).length c = v ∧ k ≤ N ∧ OwnIn dvL 10 78 w1.heap.size wr.heap.size wr (.slice (some ⟨g, 0, none⟩) (keptD (l.take k) ad ⟨n0, n1, n2, n3, n4, n5, n6, n7⟩).length c) (keptD (l.take k) ad ⟨n0, n1, n2, n3, n4, n5, n6, n7⟩) ∧ Below w1.heap.size w1 wr) (fun v i _ => N - (intOf i).toNat)
  case atStart => exact ⟨0, _, _, rfl, rfl, by omega, HO0.out, HB0.out⟩
  case round =>
    obtain ⟨k, g, c, rfl, hv, hk, hown, hb⟩ := hrel
    subst hv
    have HO := Lib.hid hown
    clear hown
    by_cases hkn : k < N
    · have hkl : k < l.length := by have := HN.out; omega
      have hi1 : (0 : Int) ≤ (k : Int) := by omega
      have hi2 : (k : Int) < (N : Int) := by omega
      obtain ⟨B, o, ha, hlt, hc⟩ := HI1.out.at (by omega)
      have lB : B < wr.heap.size := Nat.lt_of_lt_of_le hlt hb.size
      have HCs := Lib.hid (fun j v hv => (hb.cell (p := ⟨B, _, none⟩) hlt).trans (hc k _ (dvAt_some hkl) j v hv))
      have HCn0 := Lib.hid (fun j v hv => HCs.out j v (dv_nmL (dvAt l k) j v hv))
      have HR2 := Lib.hid ((hb.block R1 hRlt).trans HRB.out)
      have HX := Lib.hid (HKT k hkl).out
      have hlen := HTL.out k
      have hlenN : (keptD (l.take k) ad ⟨n0, n1, n2, n3, n4, n5, n6, n7⟩).length ≤ 8 := Nat.le_trans hlen (by rw [List.length_take]; omega)
      clear hc hlen
      subst ha
      generalize keptD (l.take k) ad ⟨n0, n1, n2, n3, n4, n5, n6, n7⟩ = L at *
      have HSt := Lib.hid (show staysB ad ⟨n0, n1, n2, n3, n4, n5, n6, n7⟩ (dvAt l k) = (!(sameN (dvAt l k).n ⟨n0, n1, n2, n3, n4, n5, n6, n7⟩) && !((dvAt l k).ad == ad)) from rfl)
      generalize dvAt l k = x at *
      obtain ⟨⟨m0, m1, m2, m3, m4, m5, m6, m7⟩, xa, xg⟩ := x
      unfold dvL at HCs
      dsimp only at *
      have HCa := Lib.hid (show wr.cell? ⟨B, o + k * 10 + 8, none⟩ = some (.int .i64 xa) from HCs.out 8 _ rfl)
      have HCn := Lib.hid (show ∀ (j : Nat) v, ([.int .i64 m0, .int .i64 m1, .int .i64 m2, .int .i64 m3, .int .i64 m4, .int .i64 m5, .int .i64 m6, .bool m7] : List Value)[j]? = some v → wr.cell? ⟨B, o + k * 10 + j, none⟩ = some v from fun j v hv => HCn0.out j v hv)
      have HSame := Lib.hid (show sameN ⟨m0, m1, m2, m3, m4, m5, m6, m7⟩ ⟨n0, n1, n2, n3, n4, n5, n6, n7⟩ = decide (m0 = n0 ∧ m1 = n1 ∧ m2 = n2 ∧ m3 = n3 ∧ m4 = n4 ∧ m5 = n5 ∧ m6 = n6 ∧ m7 = n7) from rfl)
      generalize sameN ⟨m0, m1, m2, m3, m4, m5, m6, m7⟩ ⟨n0, n1, n2, n3, n4, n5, n6, n7⟩ = S at *
      clear HCn0
      rcases S with _ | _
      · by_cases hx : xa = ad
        · have hx2 : (xa == ad) = true := by simp [hx]
          have hx3 : (xa != ad) = false := by simp [hx]
          clear hx
          go_wp2_with fail
          refine wp_region_quiet (C := fun W => Below wr.heap.size wr W) (by kernel_rfl) (by kernel_rfl) (Below.refl _ _).drew ?_
          dsimp only
          try simp only [Act.put, List.setIfInBounds_toArray, List.set_cons_zero, List.set_cons_succ]
          go_big_quiet_want; go_big_quiet_op; first | go_big_quiet_on | (refine ⟨_, fun _ _ => rfl, ?_⟩; go_big_quiet_on)
          go_big_quiet_want; go_big_quiet_op; first | go_big_quiet_on | (refine ⟨_, fun _ _ => rfl, ?_⟩; go_big_quiet_on)
          go_big_quiet_want; go_big_quiet_op; first | go_big_quiet_on | (refine ⟨_, fun _ _ => rfl, ?_⟩; go_big_quiet_on)
          go_big_quiet_want; go_big_quiet_op; first | go_big_quiet_on | (refine ⟨_, fun _ _ => rfl, ?_⟩; go_big_quiet_on)
          go_big_quiet_want; refine ⟨.agg #[.int .i64 m0, .int .i64 m1, .int .i64 m2, .int .i64 m3, .int .i64 m4, .int .i64 m5, .int .i64 m6, .bool m7], fun W hW => (quietLoadCells 33 (.tmp 21) rfl B (o + k * 10) rfl [.int .i64 m0, .int .i64 m1, .int .i64 m2, .int .i64 m3, .int .i64 m4, .int .i64 m5, .int .i64 m6, .bool m7] (grownCells lB HCn.out hW) _ Try.underlying33 rfl (by kernel_rfl)), ?_⟩; simp only [Act.put, List.setIfInBounds_toArray, List.set_cons_zero, List.set_cons_succ]; go_big_quiet_on
          go_big_quiet_want; refine ⟨.agg #[.int .i64 n0, .int .i64 n1, .int .i64 n2, .int .i64 n3, .int .i64 n4, .int .i64 n5, .int .i64 n6, .bool n7], fun W hW => (quietLoadCells 33 (.tmp 5) rfl R1 0 rfl [.int .i64 n0, .int .i64 n1, .int .i64 n2, .int .i64 n3, .int .i64 n4, .int .i64 n5, .int .i64 n6, .bool n7] (rowAll HR2.out hW) _ Try.underlying33 rfl (by kernel_rfl)), ?_⟩; simp only [Act.put, List.setIfInBounds_toArray, List.set_cons_zero, List.set_cons_succ]; go_big_quiet_on
          go_big_quiet_want; refine ⟨.bool true, fun W hW => (quietNeqNm (.tmp 22) (.tmp 23) _ rfl m0 m1 m2 m3 m4 m5 m6 n0 n1 n2 n3 n4 n5 n6 m7 n7 rfl rfl false HSame.out), ?_⟩; simp only [Act.put, List.setIfInBounds_toArray, List.set_cons_zero, List.set_cons_succ]; go_big_quiet_on
          go_big_quiet_want; go_big_quiet_op; first | go_big_quiet_on | (refine ⟨_, fun _ _ => rfl, ?_⟩; go_big_quiet_on)
          first | go_big_quiet_skip | (go_big_quiet_want; go_big_quiet_op; first | go_big_quiet_on | (refine ⟨_, fun _ _ => rfl, ?_⟩; go_big_quiet_on))
          first | go_big_quiet_skip | (go_big_quiet_want; go_big_quiet_op; first | go_big_quiet_on | (refine ⟨_, fun _ _ => rfl, ?_⟩; go_big_quiet_on))
          first | go_big_quiet_skip | (go_big_quiet_want; go_big_quiet_op; first | go_big_quiet_on | (refine ⟨_, fun _ _ => rfl, ?_⟩; go_big_quiet_on))
          first | go_big_quiet_skip | (go_big_quiet_want; go_big_quiet_op; first | go_big_quiet_on | (refine ⟨_, fun _ _ => rfl, ?_⟩; go_big_quiet_on))
          first | go_big_quiet_skip | (go_big_quiet_want; refine ⟨.int .i64 xa, fun W hW => (quietLoadOne 2 (.tmp 29) rfl B (o + k * 10 + 8) rfl _ ((hW.cell (p := ⟨B, o + k * 10 + 8, none⟩) lB).trans HCa.out) _ Try.underlying2 rfl), ?_⟩; simp only [Act.put, List.setIfInBounds_toArray, List.set_cons_zero, List.set_cons_succ]; go_big_quiet_on)
          first | go_big_quiet_skip | (go_big_quiet_want; go_big_quiet_op; first | go_big_quiet_on | (refine ⟨_, fun _ _ => rfl, ?_⟩; go_big_quiet_on))
          first | go_big_quiet_skip | (go_big_quiet_want; go_big_quiet_op; first | go_big_quiet_on | (refine ⟨_, fun _ _ => rfl, ?_⟩; go_big_quiet_on))
          go_big_quiet_want; go_big_quiet_op; first | go_big_quiet_on | (refine ⟨_, fun _ _ => rfl, ?_⟩; go_big_quiet_on)
          refine wpQuiet_nil ?_
          intro X hX
          go_wp2_with fail
          go_roundw
          case rel =>
            have e := HX.out
            rw [HSt.out, if_neg (by simp [hx2]), List.append_nil] at e
            refine ⟨k + 1, g, c, by go_num, by rw [e], by omega, ?_, hb.trans (hX.mono hb.size)⟩
            rw [e]
            exact (HO.out.kept hX).wide hX.size
          case measure => simp [intOf]; omega
        · have hx2 : (xa == ad) = false := by simp [hx]
          have hx3 : (xa != ad) = true := by simp [hx]
          clear hx
          go_wp2_with fail
          refine wp_region_quiet (C := fun W => Below wr.heap.size wr W) (by kernel_rfl) (by kernel_rfl) (Below.refl _ _).drew ?_
          dsimp only
          try simp only [Act.put, List.setIfInBounds_toArray, List.set_cons_zero, List.set_cons_succ]
          go_big_quiet_want; go_big_quiet_op; first | go_big_quiet_on | (refine ⟨_, fun _ _ => rfl, ?_⟩; go_big_quiet_on)
          go_big_quiet_want; go_big_quiet_op; first | go_big_quiet_on | (refine ⟨_, fun _ _ => rfl, ?_⟩; go_big_quiet_on)
          go_big_quiet_want; go_big_quiet_op; first | go_big_quiet_on | (refine ⟨_, fun _ _ => rfl, ?_⟩; go_big_quiet_on)
          go_big_quiet_want; go_big_quiet_op; first | go_big_quiet_on | (refine ⟨_, fun _ _ => rfl, ?_⟩; go_big_quiet_on)
          go_big_quiet_want; refine ⟨.agg #[.int .i64 m0, .int .i64 m1, .int .i64 m2, .int .i64 m3, .int .i64 m4, .int .i64 m5, .int .i64 m6, .bool m7], fun W hW => (quietLoadCells 33 (.tmp 21) rfl B (o + k * 10) rfl [.int .i64 m0, .int .i64 m1, .int .i64 m2, .int .i64 m3, .int .i64 m4, .int .i64 m5, .int .i64 m6, .bool m7] (grownCells lB HCn.out hW) _ Try.underlying33 rfl (by kernel_rfl)), ?_⟩; simp only [Act.put, List.setIfInBounds_toArray, List.set_cons_zero, List.set_cons_succ]; go_big_quiet_on
          go_big_quiet_want; refine ⟨.agg #[.int .i64 n0, .int .i64 n1, .int .i64 n2, .int .i64 n3, .int .i64 n4, .int .i64 n5, .int .i64 n6, .bool n7], fun W hW => (quietLoadCells 33 (.tmp 5) rfl R1 0 rfl [.int .i64 n0, .int .i64 n1, .int .i64 n2, .int .i64 n3, .int .i64 n4, .int .i64 n5, .int .i64 n6, .bool n7] (rowAll HR2.out hW) _ Try.underlying33 rfl (by kernel_rfl)), ?_⟩; simp only [Act.put, List.setIfInBounds_toArray, List.set_cons_zero, List.set_cons_succ]; go_big_quiet_on
          go_big_quiet_want; refine ⟨.bool true, fun W hW => (quietNeqNm (.tmp 22) (.tmp 23) _ rfl m0 m1 m2 m3 m4 m5 m6 n0 n1 n2 n3 n4 n5 n6 m7 n7 rfl rfl false HSame.out), ?_⟩; simp only [Act.put, List.setIfInBounds_toArray, List.set_cons_zero, List.set_cons_succ]; go_big_quiet_on
          go_big_quiet_want; go_big_quiet_op; first | go_big_quiet_on | (refine ⟨_, fun _ _ => rfl, ?_⟩; go_big_quiet_on)
          first | go_big_quiet_skip | (go_big_quiet_want; go_big_quiet_op; first | go_big_quiet_on | (refine ⟨_, fun _ _ => rfl, ?_⟩; go_big_quiet_on))
          first | go_big_quiet_skip | (go_big_quiet_want; go_big_quiet_op; first | go_big_quiet_on | (refine ⟨_, fun _ _ => rfl, ?_⟩; go_big_quiet_on))
          first | go_big_quiet_skip | (go_big_quiet_want; go_big_quiet_op; first | go_big_quiet_on | (refine ⟨_, fun _ _ => rfl, ?_⟩; go_big_quiet_on))
          first | go_big_quiet_skip | (go_big_quiet_want; go_big_quiet_op; first | go_big_quiet_on | (refine ⟨_, fun _ _ => rfl, ?_⟩; go_big_quiet_on))
          first | go_big_quiet_skip | (go_big_quiet_want; refine ⟨.int .i64 xa, fun W hW => (quietLoadOne 2 (.tmp 29) rfl B (o + k * 10 + 8) rfl _ ((hW.cell (p := ⟨B, o + k * 10 + 8, none⟩) lB).trans HCa.out) _ Try.underlying2 rfl), ?_⟩; simp only [Act.put, List.setIfInBounds_toArray, List.set_cons_zero, List.set_cons_succ]; go_big_quiet_on)
          first | go_big_quiet_skip | (go_big_quiet_want; go_big_quiet_op; first | go_big_quiet_on | (refine ⟨_, fun _ _ => rfl, ?_⟩; go_big_quiet_on))
          first | go_big_quiet_skip | (go_big_quiet_want; go_big_quiet_op; first | go_big_quiet_on | (refine ⟨_, fun _ _ => rfl, ?_⟩; go_big_quiet_on))
          go_big_quiet_want; go_big_quiet_op; first | go_big_quiet_on | (refine ⟨_, fun _ _ => rfl, ?_⟩; go_big_quiet_on)
          refine wpQuiet_nil ?_
          intro X hX
          have HOx := Lib.hid ((HO.out.kept hX).wide hX.size)
          have HCx := Lib.hid (grownCells lB HCs.out hX)
          go_wp2_with (first
            | (refine wpList_load_cells rfl 78 (.tmp 37) rfl B (o + k * 10) rfl [.int .i64 m0, .int .i64 m1, .int .i64 m2, .int .i64 m3, .int .i64 m4, .int .i64 m5, .int .i64 m6, .bool m7, .int .i64 xa, .int .i64 xg] HCx.out _ Try.underlying78 rfl (by kernel_rfl) ?_)
            | (refine wpList_lit1 dvL_len rfl 24 (.tmp 38) rfl 78 i0 Try.underlying24 HI0.out _ hz0 hz1 ⟨⟨m0, m1, m2, m3, m4, m5, m6, m7⟩, xa, xg⟩ (.agg #[.int .i64 m0, .int .i64 m1, .int .i64 m2, .int .i64 m3, .int .i64 m4, .int .i64 m5, .int .i64 m6, .bool m7, .int .i64 xa, .int .i64 xg]) rfl rfl (by kernel_rfl) (by decide) (by decide) ?_; intro w20 R20 e20 hin20 b20; have HR20 := Lib.hid hin20; have HO20 := Lib.hid (HOx.out.kept b20); have HB20 := Lib.hid (hX.trans (b20.mono hX.size)); clear e20 hin20 b20)
            | (at_builtin; refine wpList_append_rs dvL_len dvL_one rfl (.tmp 34) (.tmp 39) 24 rfl 78 i0 _ 80 Try.underlying24 HI0.out hz0 hz1 hz2 (by kernel_rfl) (by decide) w1.heap.size X.heap.size _ L rfl HO20.out _ 1 [⟨⟨m0, m1, m2, m3, m4, m5, m6, m7⟩, xa, xg⟩] rfl HR20.out (by unfold maxLen; show _ + 1 ≤ _; omega) (by show (_ + 1) * 80 ≤ _; omega) (Nat.le_trans hb.size HB20.out.size) ?_; intro v21 w21 hown21 ho21; have HO21 := Lib.hid hown21; have HU21 := Lib.hid ho21; clear hown21 ho21))
          go_roundw
          case rel =>
            have e := HX.out
            rw [HSt.out, if_pos (by simp [hx2])] at e
            have hO := HO21.out
            obtain ⟨g', c', hv'⟩ := ownsRow_succ' (show _ = L.length + 1 by simp) hO.1
            subst hv'
            refine ⟨k + 1, g', c', by go_num, by rw [e], by omega, ?_, HU21.out.below (hb.trans (HB20.out.mono hb.size)) (Nat.le_refl _) (Nat.le_trans hb.size HB20.out.size)⟩
            rw [e]
            exact hO
          case measure => simp [intOf]; omega
      · have hx2 : True := trivial
        go_wp2_with fail
        refine wp_region_quiet (C := fun W => Below wr.heap.size wr W) (by kernel_rfl) (by kernel_rfl) (Below.refl _ _).drew ?_
        dsimp only
        try simp only [Act.put, List.setIfInBounds_toArray, List.set_cons_zero, List.set_cons_succ]
        go_big_quiet_want; go_big_quiet_op; first | go_big_quiet_on | (refine ⟨_, fun _ _ => rfl, ?_⟩; go_big_quiet_on)
        go_big_quiet_want; go_big_quiet_op; first | go_big_quiet_on | (refine ⟨_, fun _ _ => rfl, ?_⟩; go_big_quiet_on)
        go_big_quiet_want; go_big_quiet_op; first | go_big_quiet_on | (refine ⟨_, fun _ _ => rfl, ?_⟩; go_big_quiet_on)
        go_big_quiet_want; go_big_quiet_op; first | go_big_quiet_on | (refine ⟨_, fun _ _ => rfl, ?_⟩; go_big_quiet_on)
        go_big_quiet_want; refine ⟨.agg #[.int .i64 m0, .int .i64 m1, .int .i64 m2, .int .i64 m3, .int .i64 m4, .int .i64 m5, .int .i64 m6, .bool m7], fun W hW => (quietLoadCells 33 (.tmp 21) rfl B (o + k * 10) rfl [.int .i64 m0, .int .i64 m1, .int .i64 m2, .int .i64 m3, .int .i64 m4, .int .i64 m5, .int .i64 m6, .bool m7] (grownCells lB HCn.out hW) _ Try.underlying33 rfl (by kernel_rfl)), ?_⟩; simp only [Act.put, List.setIfInBounds_toArray, List.set_cons_zero, List.set_cons_succ]; go_big_quiet_on
        go_big_quiet_want; refine ⟨.agg #[.int .i64 n0, .int .i64 n1, .int .i64 n2, .int .i64 n3, .int .i64 n4, .int .i64 n5, .int .i64 n6, .bool n7], fun W hW => (quietLoadCells 33 (.tmp 5) rfl R1 0 rfl [.int .i64 n0, .int .i64 n1, .int .i64 n2, .int .i64 n3, .int .i64 n4, .int .i64 n5, .int .i64 n6, .bool n7] (rowAll HR2.out hW) _ Try.underlying33 rfl (by kernel_rfl)), ?_⟩; simp only [Act.put, List.setIfInBounds_toArray, List.set_cons_zero, List.set_cons_succ]; go_big_quiet_on
        go_big_quiet_want; refine ⟨.bool false, fun W hW => (quietNeqNm (.tmp 22) (.tmp 23) _ rfl m0 m1 m2 m3 m4 m5 m6 n0 n1 n2 n3 n4 n5 n6 m7 n7 rfl rfl true HSame.out), ?_⟩; simp only [Act.put, List.setIfInBounds_toArray, List.set_cons_zero, List.set_cons_succ]; go_big_quiet_on
        go_big_quiet_want; go_big_quiet_op; first | go_big_quiet_on | (refine ⟨_, fun _ _ => rfl, ?_⟩; go_big_quiet_on)
        first | go_big_quiet_skip | (go_big_quiet_want; go_big_quiet_op; first | go_big_quiet_on | (refine ⟨_, fun _ _ => rfl, ?_⟩; go_big_quiet_on))
        first | go_big_quiet_skip | (go_big_quiet_want; go_big_quiet_op; first | go_big_quiet_on | (refine ⟨_, fun _ _ => rfl, ?_⟩; go_big_quiet_on))
        first | go_big_quiet_skip | (go_big_quiet_want; go_big_quiet_op; first | go_big_quiet_on | (refine ⟨_, fun _ _ => rfl, ?_⟩; go_big_quiet_on))
        first | go_big_quiet_skip | (go_big_quiet_want; go_big_quiet_op; first | go_big_quiet_on | (refine ⟨_, fun _ _ => rfl, ?_⟩; go_big_quiet_on))
        first | go_big_quiet_skip | (go_big_quiet_want; refine ⟨.int .i64 xa, fun W hW => (quietLoadOne 2 (.tmp 29) rfl B (o + k * 10 + 8) rfl _ ((hW.cell (p := ⟨B, o + k * 10 + 8, none⟩) lB).trans HCa.out) _ Try.underlying2 rfl), ?_⟩; simp only [Act.put, List.setIfInBounds_toArray, List.set_cons_zero, List.set_cons_succ]; go_big_quiet_on)
        first | go_big_quiet_skip | (go_big_quiet_want; go_big_quiet_op; first | go_big_quiet_on | (refine ⟨_, fun _ _ => rfl, ?_⟩; go_big_quiet_on))
        first | go_big_quiet_skip | (go_big_quiet_want; go_big_quiet_op; first | go_big_quiet_on | (refine ⟨_, fun _ _ => rfl, ?_⟩; go_big_quiet_on))
        go_big_quiet_want; go_big_quiet_op; first | go_big_quiet_on | (refine ⟨_, fun _ _ => rfl, ?_⟩; go_big_quiet_on)
        refine wpQuiet_nil ?_
        intro X hX
        go_wp2_with fail
        go_roundw
        case rel =>
          have e := HX.out
          rw [HSt.out, if_neg (by simp), List.append_nil] at e
          refine ⟨k + 1, g, c, by go_num, by rw [e], by omega, ?_, hb.trans (hX.mono hb.size)⟩
          rw [e]
          exact (HO.out.kept hX).wide hX.size
        case measure => simp [intOf]; omega
    · have hge : N ≤ k := by omega
      have HA := Lib.hid (HKall.out k (by have := HN.out; omega))
      have hO := HO.out
      rw [HA.out] at hO ⊢
      have HOK1 := Lib.hid hO
      have HR2 := Lib.hid ((hb.block R1 hRlt).trans HRB.out)
      have hM8 : (keptD l ad ⟨n0, n1, n2, n3, n4, n5, n6, n7⟩).length ≤ 8 := Nat.le_trans HKL.out (by have := HN.out; omega)
      clear hkn hO HO HA HKall HKT HTL
      generalize keptD l ad ⟨n0, n1, n2, n3, n4, n5, n6, n7⟩ = KD at *
      obtain ⟨M, hM⟩ : ∃ M, KD.length = M := ⟨_, rfl⟩
      have HM := Lib.hid hM
      rw [hM] at hM8 ⊢
      rw [hM] at HKN HKY HOK1
      clear hM
      go_wp2_with fail
      refine (l05Addr_any ad _).mono ?_
      rintro e w' ⟨rfl, rfl⟩
      by_cases ha : ¬ ad ≤ 251
      · have hq : inB 0 251 ad = false := by unfold inB; simp; omega
        rw [hq]
        have HRes := Lib.hid (HKN.out (fun h => ha h.1))
        clear ha
        go_wp2_with fail
        go_ret
        obtain ⟨a', cap', hv, _, hn⟩ := HOK1.out.new' dvL_len HM.out
        rw [hv, ← HRes.out]
        exact ⟨a', cap', rfl, hn.wide HL1.out.below.size (Nat.le_refl _), HL1.out.below.trans (hb.mono HL1.out.below.size)⟩
      have ha : ad ≤ 251 := by omega
      have hq : inB 0 251 ad = true := by unfold inB; simp; omega
      rw [hq]
      by_cases h8k : 8 ≤ M
      · have HRes := Lib.hid (HKN.out (fun h => by omega))
        have hd8 : decide ((8 : Int) ≤ (M : Int)) = true := decide_eq_true (by omega)
        go_wp2_with fail
        go_ret
        obtain ⟨a', cap', hv, _, hn⟩ := HOK1.out.new' dvL_len HM.out
        rw [hv, ← HRes.out]
        exact ⟨a', cap', rfl, hn.wide HL1.out.below.size (Nat.le_refl _), HL1.out.below.trans (hb.mono HL1.out.below.size)⟩
      have hd8 : decide ((8 : Int) ≤ (M : Int)) = false := decide_eq_false (by omega)
      have HRes := fun k (hk : aheadD KD ⟨n0, n1, n2, n3, n4, n5, n6, n7⟩ = k) => Lib.hid ((HKY k).out ⟨ha, by omega⟩ hk)
      clear HKN HKY ha hq
      go_wp2_with fail
      obtain ⟨LO, eLO⟩ : ∃ x, w1.heap.size = x := ⟨_, rfl⟩
      obtain ⟨HIx, eHI⟩ : ∃ x, wr.heap.size = x := ⟨_, rfl⟩
      have hLO : w.heap.size ≤ LO := by rw [← eLO]; exact HL1.out.below.size
      have HLa := Lib.hid (show Lg w wr [(R1, #[.int .i64 n0, .int .i64 n1, .int .i64 n2, .int .i64 n3, .int .i64 n4, .int .i64 n5, .int .i64 n6, .bool n7], 33)] [(LO, HIx, fun W => OwnIn dvL 10 78 LO HIx W (.slice (some ⟨g, 0, none⟩) M c) KD)] from (by
        subst eLO eHI
        exact ((HL1.out.kept (hb.mono (Nat.le_refl _))).addNew HOK1.out.solid HL1.out.below.size hb.size (Nat.le_refl _))))
      have hcM : M ≤ c := HOK1.out.cap_le dvL_len
      clear eLO HOK1 HR2 HRB HI1 HI
      clear eHI hb HL1 hRlt hLO
      go_loopw [9] (fun i wq => ∃ k : Nat, i = .int .i64 (k : Int) ∧ k ≤ M ∧ (∀ t, t < k → nmLessB (dvAt KD t).n ⟨n0, n1, n2, n3, n4, n5, n6, n7⟩ = true) ∧ Below wr.heap.size wr wq) (fun i _ => M - (intOf i).toNat)
      case atStart => exact ⟨0, rfl, by omega, fun t ht => absurd ht (by omega), Below.refl _ _⟩
      case round =>
        clear hk hge
        obtain ⟨k, rfl, hk, hall, hbq⟩ := hrel
        have HAl := Lib.hid hall
        have HLq := Lib.hid (HLa.out.kept hbq)
        have HR3 := Lib.hid (HLq.out.get (.head _))
        have HTk := Lib.hid (show (KD.take k).length = k by rw [List.length_take, HM.out]; omega)
        have HDk := Lib.hid (show (KD.drop k).length = M - k by rw [List.length_drop, HM.out])
        have hi1 : (0 : Int) ≤ (k : Int) := by omega
        have hi3 : (k : Int) ≤ (M : Int) := by omega
        have hi4 : (k : Int) ≤ (c : Int) := by omega
        clear hall
        by_cases hkn : k < M
        · have hkl : k < KD.length := by have := HM.out; omega
          have hi2 : (k : Int) < (M : Int) := by omega
          obtain ⟨B2, o2, hBo, lg, hcs⟩ := ((HLq.out.at (.head _)).rsIn dvL_len).at (by omega)
          simp only [Option.some.injEq, Addr.mk.injEq, and_true] at hBo
          obtain ⟨rfl, rfl⟩ := hBo
          have hcs2 := hcs k _ (dvAt_some hkl)
          have HCn0 := Lib.hid (fun j v hv => hcs2 j v (dv_nmL (dvAt KD k) j v hv))
          have hokd := (dvOkB_of (HOK.out _ (List.mem_of_getElem? (dvAt_some hkl)))).1
          have HLc0 := fun W => Lib.hid (HLs W _ hokd).out
          have HLe := Lib.hid (HLessOk _ hokd).out
          clear hcs hcs2 hokd
          generalize hd : dvAt KD k = x at HCn0 HLc0 HLe
          have HD := Lib.hid hd
          clear hd
          obtain ⟨⟨m0, m1, m2, m3, m4, m5, m6, m7⟩, xa, xg⟩ := x
          dsimp only at HCn0 HLc0 HLe
          have HCn := Lib.hid (show ∀ (j : Nat) v, ([.int .i64 m0, .int .i64 m1, .int .i64 m2, .int .i64 m3, .int .i64 m4, .int .i64 m5, .int .i64 m6, .bool m7] : List Value)[j]? = some v → wr.cell? ⟨g, k * 10 + j, none⟩ = some v from fun j v hv => by
            have := HCn0.out j v hv
            rwa [Nat.zero_add] at this)
          obtain ⟨LS, hLS⟩ : ∃ b, decide (nmN ⟨m0, m1, m2, m3, m4, m5, m6, m7⟩ < nmN ⟨n0, n1, n2, n3, n4, n5, n6, n7⟩) = b := ⟨_, rfl⟩
          rw [hLS] at HLc0 HLe
          clear hLS HCn0
          rcases LS with _ | _
          · go_wp2_with fail
            refine wp_region_quiet (C := fun W => Below wr.heap.size wr W) (by kernel_rfl) (by kernel_rfl) (Below.refl _ _).drew ?_
            dsimp only
            try simp only [Act.put, List.setIfInBounds_toArray, List.set_cons_zero, List.set_cons_succ]
            go_big_quiet_want; go_big_quiet_op; first | go_big_quiet_on | (refine ⟨_, fun _ _ => rfl, ?_⟩; go_big_quiet_on)
            go_big_quiet_want; go_big_quiet_op; first | go_big_quiet_on | (refine ⟨_, fun _ _ => rfl, ?_⟩; go_big_quiet_on)
            go_big_quiet_want; go_big_quiet_op; first | go_big_quiet_on | (refine ⟨_, fun _ _ => rfl, ?_⟩; go_big_quiet_on)
            go_big_quiet_want; go_big_quiet_op; first | go_big_quiet_on | (refine ⟨_, fun _ _ => rfl, ?_⟩; go_big_quiet_on)
            go_big_quiet_want; go_big_quiet_op; first | go_big_quiet_on | (refine ⟨_, fun _ _ => rfl, ?_⟩; go_big_quiet_on)
            go_big_quiet_want; go_big_quiet_op; first | go_big_quiet_on | (refine ⟨_, fun _ _ => rfl, ?_⟩; go_big_quiet_on)
            go_big_quiet_want; go_big_quiet_op; first | go_big_quiet_on | (refine ⟨_, fun _ _ => rfl, ?_⟩; go_big_quiet_on)
            go_big_quiet_want; go_big_quiet_op; first | go_big_quiet_on | (refine ⟨_, fun _ _ => rfl, ?_⟩; go_big_quiet_on)
            go_big_quiet_want; go_big_quiet_op; first | go_big_quiet_on | (refine ⟨_, fun _ _ => rfl, ?_⟩; go_big_quiet_on)
            go_big_quiet_want; refine ⟨.agg #[.int .i64 m0, .int .i64 m1, .int .i64 m2, .int .i64 m3, .int .i64 m4, .int .i64 m5, .int .i64 m6, .bool m7], fun W hW => (quietLoadCells 33 (.tmp 58) rfl g (k * 10) rfl [.int .i64 m0, .int .i64 m1, .int .i64 m2, .int .i64 m3, .int .i64 m4, .int .i64 m5, .int .i64 m6, .bool m7] (grownCells lg HCn.out hW) _ Try.underlying33 rfl (by kernel_rfl)), ?_⟩; simp only [Act.put, List.setIfInBounds_toArray, List.set_cons_zero, List.set_cons_succ]; go_big_quiet_on
            go_big_quiet_want; refine ⟨.agg #[.int .i64 n0, .int .i64 n1, .int .i64 n2, .int .i64 n3, .int .i64 n4, .int .i64 n5, .int .i64 n6, .bool n7], fun W hW => (quietLoadCells 33 (.tmp 5) rfl R1 0 rfl [.int .i64 n0, .int .i64 n1, .int .i64 n2, .int .i64 n3, .int .i64 n4, .int .i64 n5, .int .i64 n6, .bool n7] (rowAll HR3.out hW) _ Try.underlying33 rfl (by kernel_rfl)), ?_⟩; simp only [Act.put, List.setIfInBounds_toArray, List.set_cons_zero, List.set_cons_succ]; go_big_quiet_on
            go_big_quiet_want; go_big_quiet_op; refine ⟨_, fun W hW => (quietCall hW (HLc0 W).out), ?_⟩; go_big_quiet_on
            go_big_quiet_want; go_big_quiet_op; first | go_big_quiet_on | (refine ⟨_, fun _ _ => rfl, ?_⟩; go_big_quiet_on)
            refine wpQuiet_nil ?_
            intro X hX
            have HPu := Lib.hid (show ([] : List Dv) ++ KD.take k ++ [⟨⟨n0, n1, n2, n3, n4, n5, n6, n7⟩, ad, 0⟩] ++ KD.drop k = RES from by
              rw [← (HRes k (ahead_of (Nat.le_of_lt hkl) HAl.out (fun _ => by rw [HD.out]; exact HLe.out))).out]
              simp)
            have hck : ¬ (c = k) := by omega
            have HLx := Lib.hid (HLq.out.kept hX)
            have HZa := fun {W : World} (h : RsIn dvL 10 W (some ⟨g, 0, none⟩) KD) => (show RsIn dvL 10 W (some ⟨g, k * 10, none⟩) (KD.drop k) from by have := h.drop k; rwa [Nat.zero_add] at this)
            go_wp2_with (first
              | (refine wpList_lit0 dvL 10 rfl 24 rfl 78 i0 Try.underlying24 HI0.out ?_; intro wA G hg1 hown1 hb1; have HOA := Lib.hid hown1; have gG0 : w.heap.size ≤ G := (by rw [← hg1]; exact HLx.out.below.size); have g_R1 : R1 < G := (by rw [← hg1]; exact HLx.out.lt (.head _)); have g_HIx : HIx ≤ G := (by rw [← hg1]; exact (HLx.out.hi (.head _)).2); have HSzA := Lib.hid (show G ≤ wA.heap.size from (by rw [← hg1]; exact hb1.size)); have LA := Lib.hid (show Lg w wA [(R1, #[.int .i64 n0, .int .i64 n1, .int .i64 n2, .int .i64 n3, .int .i64 n4, .int .i64 n5, .int .i64 n6, .bool n7], 33)] [(LO, HIx, fun W => OwnIn dvL 10 78 LO HIx W (.slice (some ⟨g, 0, none⟩) M c) KD)] from HLx.out.kept hb1); clear hown1 hb1 hg1)
              | (at_builtin; refine wpList_append_rs dvL_len dvL_one rfl (.tmp 65) (.tmp 68) 24 rfl 78 i0 _ 80 Try.underlying24 HI0.out hz0 hz1 hz2 (by kernel_rfl) (by decide) G (wA.heap.size) (.slice (some ⟨G, 0, none⟩) 0 0) (([] : List Dv)) rfl HOA.out _ _ (KD.take k) (slice_len rfl HTk.out) (((LA.out.at (.head _)).rsIn dvL_len).take k) (by have := HM.out; have := HTk.out; have := HDk.out; unfold maxLen; simp <;> omega) (by have := HM.out; have := HTk.out; have := HDk.out; simp <;> omega) (by have := (LA.out.below.size); have := HSzA.out; omega) ?_; intro vB wB hown2 ho2; have HOB := Lib.hid hown2; have LB := Lib.hid (show Lg w wB [(R1, #[.int .i64 n0, .int .i64 n1, .int .i64 n2, .int .i64 n3, .int .i64 n4, .int .i64 n5, .int .i64 n6, .bool n7], 33)] [(LO, HIx, fun W => OwnIn dvL 10 78 LO HIx W (.slice (some ⟨g, 0, none⟩) M c) KD)] from LA.out.out ho2 gG0 (List.forall_mem_cons.2 ⟨Or.inl g_R1, (fun _ h => nomatch h)⟩) (List.forall_mem_cons.2 ⟨.inl g_HIx, (fun _ h => nomatch h)⟩)); have HSzB := Lib.hid (Nat.le_trans HSzA.out ho2.size); clear hown2 ho2)
              | (refine wpList_load_at rfl 33 (.tmp 5) rfl (R1) 0 rfl 33 #[.int .i64 n0, .int .i64 n1, .int .i64 n2, .int .i64 n3, .int .i64 n4, .int .i64 n5, .int .i64 n6, .bool n7] (0, 0) (LB.out.get (.head _)) [.int .i64 n0, .int .i64 n1, .int .i64 n2, .int .i64 n3, .int .i64 n4, .int .i64 n5, .int .i64 n6, .bool n7] rfl _ Try.underlying33 rfl (by kernel_rfl) ?_)
              | (refine wpList_lit1 dvL_len rfl 24 (.tmp 73) rfl 78 i0 Try.underlying24 HI0.out _ hz0 hz1 ⟨⟨n0, n1, n2, n3, n4, n5, n6, n7⟩, ad, 0⟩ (.agg #[.int .i64 n0, .int .i64 n1, .int .i64 n2, .int .i64 n3, .int .i64 n4, .int .i64 n5, .int .i64 n6, .bool n7, .int .i64 ad, .int .i64 0]) rfl rfl (by kernel_rfl) (by decide) (by decide) ?_; intro wC g2 hg2 hinC hbC; have HIC := Lib.hid hinC; have LC := Lib.hid (show Lg w wC [(R1, #[.int .i64 n0, .int .i64 n1, .int .i64 n2, .int .i64 n3, .int .i64 n4, .int .i64 n5, .int .i64 n6, .bool n7], 33)] [(LO, HIx, fun W => OwnIn dvL 10 78 LO HIx W (.slice (some ⟨g, 0, none⟩) M c) KD)] from LB.out.kept hbC); have HOC := Lib.hid (HOB.out.kept hbC); have HSzC := Lib.hid (Nat.le_trans HSzB.out hbC.size); clear hinC hbC hg2)
              | (at_builtin; refine wpList_append_rs dvL_len dvL_one rfl (.tmp 70) (.tmp 74) 24 rfl 78 i0 _ 80 Try.underlying24 HI0.out hz0 hz1 hz2 (by kernel_rfl) (by decide) G (wB.heap.size) (vB) (([] : List Dv) ++ KD.take k) rfl HOC.out _ _ ([⟨⟨n0, n1, n2, n3, n4, n5, n6, n7⟩, ad, 0⟩]) rfl HIC.out (by have := HM.out; have := HTk.out; have := HDk.out; unfold maxLen; simp <;> omega) (by have := HM.out; have := HTk.out; have := HDk.out; simp <;> omega) (by have := (LC.out.below.size); have := HSzC.out; omega) ?_; intro vD wD hown2 ho2; have HOD := Lib.hid hown2; have LD := Lib.hid (show Lg w wD [(R1, #[.int .i64 n0, .int .i64 n1, .int .i64 n2, .int .i64 n3, .int .i64 n4, .int .i64 n5, .int .i64 n6, .bool n7], 33)] [(LO, HIx, fun W => OwnIn dvL 10 78 LO HIx W (.slice (some ⟨g, 0, none⟩) M c) KD)] from LC.out.out ho2 gG0 (List.forall_mem_cons.2 ⟨Or.inl g_R1, (fun _ h => nomatch h)⟩) (List.forall_mem_cons.2 ⟨.inl g_HIx, (fun _ h => nomatch h)⟩)); have HSzD := Lib.hid (Nat.le_trans HSzC.out ho2.size); clear hown2 ho2)
              | (at_builtin; refine wpList_append_rs dvL_len dvL_one rfl (.tmp 76) (.tmp 79) 24 rfl 78 i0 _ 80 Try.underlying24 HI0.out hz0 hz1 hz2 (by kernel_rfl) (by decide) G (wD.heap.size) (vD) (([] : List Dv) ++ KD.take k ++ [⟨⟨n0, n1, n2, n3, n4, n5, n6, n7⟩, ad, 0⟩]) rfl HOD.out _ _ (KD.drop k) (slice_len rfl HDk.out) (HZa ((LD.out.at (.head _)).rsIn dvL_len)) (by have := HM.out; have := HTk.out; have := HDk.out; unfold maxLen; simp <;> omega) (by have := HM.out; have := HTk.out; have := HDk.out; simp <;> omega) (by have := (LD.out.below.size); have := HSzD.out; omega) ?_; intro vE wE hown2 ho2; have HOE := Lib.hid hown2; have LE := Lib.hid (show Lg w wE [(R1, #[.int .i64 n0, .int .i64 n1, .int .i64 n2, .int .i64 n3, .int .i64 n4, .int .i64 n5, .int .i64 n6, .bool n7], 33)] [(LO, HIx, fun W => OwnIn dvL 10 78 LO HIx W (.slice (some ⟨g, 0, none⟩) M c) KD)] from LD.out.out ho2 gG0 (List.forall_mem_cons.2 ⟨Or.inl g_R1, (fun _ h => nomatch h)⟩) (List.forall_mem_cons.2 ⟨.inl g_HIx, (fun _ h => nomatch h)⟩)); have HSzE := Lib.hid (Nat.le_trans HSzD.out ho2.size); clear hown2 ho2))
            go_ret
            obtain ⟨aE, cE, hvE, hcE, hnE⟩ := HOE.out.new dvL_len
            rw [HPu.out] at hnE hvE
            exact ⟨aE, cE, by rw [hvE]; rfl, hnE.wide gG0 (Nat.le_refl _), LE.out.below⟩
          · have hall2 := Lib.hid (show ∀ t, t < k + 1 → nmLessB (dvAt KD t).n ⟨n0, n1, n2, n3, n4, n5, n6, n7⟩ = true from fun t ht => (Nat.lt_or_ge t k).elim (HAl.out t) (fun q => (show t = k by omega) ▸ (by rw [HD.out]; exact HLe.out)))
            go_wp2_with fail
            refine wp_region_quiet (C := fun W => Below wr.heap.size wr W) (by kernel_rfl) (by kernel_rfl) (Below.refl _ _).drew ?_
            dsimp only
            try simp only [Act.put, List.setIfInBounds_toArray, List.set_cons_zero, List.set_cons_succ]
            go_big_quiet_want; go_big_quiet_op; first | go_big_quiet_on | (refine ⟨_, fun _ _ => rfl, ?_⟩; go_big_quiet_on)
            go_big_quiet_want; go_big_quiet_op; first | go_big_quiet_on | (refine ⟨_, fun _ _ => rfl, ?_⟩; go_big_quiet_on)
            go_big_quiet_want; go_big_quiet_op; first | go_big_quiet_on | (refine ⟨_, fun _ _ => rfl, ?_⟩; go_big_quiet_on)
            go_big_quiet_want; go_big_quiet_op; first | go_big_quiet_on | (refine ⟨_, fun _ _ => rfl, ?_⟩; go_big_quiet_on)
            go_big_quiet_want; go_big_quiet_op; first | go_big_quiet_on | (refine ⟨_, fun _ _ => rfl, ?_⟩; go_big_quiet_on)
            go_big_quiet_want; go_big_quiet_op; first | go_big_quiet_on | (refine ⟨_, fun _ _ => rfl, ?_⟩; go_big_quiet_on)
            go_big_quiet_want; go_big_quiet_op; first | go_big_quiet_on | (refine ⟨_, fun _ _ => rfl, ?_⟩; go_big_quiet_on)
            go_big_quiet_want; go_big_quiet_op; first | go_big_quiet_on | (refine ⟨_, fun _ _ => rfl, ?_⟩; go_big_quiet_on)
            go_big_quiet_want; go_big_quiet_op; first | go_big_quiet_on | (refine ⟨_, fun _ _ => rfl, ?_⟩; go_big_quiet_on)
            go_big_quiet_want; refine ⟨.agg #[.int .i64 m0, .int .i64 m1, .int .i64 m2, .int .i64 m3, .int .i64 m4, .int .i64 m5, .int .i64 m6, .bool m7], fun W hW => (quietLoadCells 33 (.tmp 58) rfl g (k * 10) rfl [.int .i64 m0, .int .i64 m1, .int .i64 m2, .int .i64 m3, .int .i64 m4, .int .i64 m5, .int .i64 m6, .bool m7] (grownCells lg HCn.out hW) _ Try.underlying33 rfl (by kernel_rfl)), ?_⟩; simp only [Act.put, List.setIfInBounds_toArray, List.set_cons_zero, List.set_cons_succ]; go_big_quiet_on
            go_big_quiet_want; refine ⟨.agg #[.int .i64 n0, .int .i64 n1, .int .i64 n2, .int .i64 n3, .int .i64 n4, .int .i64 n5, .int .i64 n6, .bool n7], fun W hW => (quietLoadCells 33 (.tmp 5) rfl R1 0 rfl [.int .i64 n0, .int .i64 n1, .int .i64 n2, .int .i64 n3, .int .i64 n4, .int .i64 n5, .int .i64 n6, .bool n7] (rowAll HR3.out hW) _ Try.underlying33 rfl (by kernel_rfl)), ?_⟩; simp only [Act.put, List.setIfInBounds_toArray, List.set_cons_zero, List.set_cons_succ]; go_big_quiet_on
            go_big_quiet_want; go_big_quiet_op; refine ⟨_, fun W hW => (quietCall hW (HLc0 W).out), ?_⟩; go_big_quiet_on
            go_big_quiet_want; go_big_quiet_op; first | go_big_quiet_on | (refine ⟨_, fun _ _ => rfl, ?_⟩; go_big_quiet_on)
            refine wpQuiet_nil ?_
            intro X hX
            go_wp2_with fail
            go_roundw
            case rel => exact ⟨k + 1, by go_num, by omega, hall2.out, hbq.trans (hX.mono hbq.size)⟩
            case measure => simp [intOf]; omega
        · have hcf : decide ((k : Int) < (M : Int)) = false := decide_eq_false (by omega)
          go_wp2_with fail
          refine wp_region_quiet (C := fun W => Below wr.heap.size wr W) (by kernel_rfl) (by kernel_rfl) (Below.refl _ _).drew ?_
          dsimp only
          try simp only [Act.put, List.setIfInBounds_toArray, List.set_cons_zero, List.set_cons_succ]
          go_big_quiet_want; go_big_quiet_op; first | go_big_quiet_on | (refine ⟨_, fun _ _ => rfl, ?_⟩; go_big_quiet_on)
          go_big_quiet_want; go_big_quiet_op; first | go_big_quiet_on | (refine ⟨_, fun _ _ => rfl, ?_⟩; go_big_quiet_on)
          go_big_quiet_want; go_big_quiet_op; first | go_big_quiet_on | (refine ⟨_, fun _ _ => rfl, ?_⟩; go_big_quiet_on)
          go_big_quiet_want; go_big_quiet_op; first | go_big_quiet_on | (refine ⟨_, fun _ _ => rfl, ?_⟩; go_big_quiet_on)
          go_big_quiet_want; go_big_quiet_op; first | go_big_quiet_on | (refine ⟨_, fun _ _ => rfl, ?_⟩; go_big_quiet_on)
          go_big_quiet_skip
          go_big_quiet_skip
          go_big_quiet_skip
          go_big_quiet_skip
          go_big_quiet_skip
          go_big_quiet_skip
          go_big_quiet_skip
          go_big_quiet_want; go_big_quiet_op; first | go_big_quiet_on | (refine ⟨_, fun _ _ => rfl, ?_⟩; go_big_quiet_on)
          refine wpQuiet_nil ?_
          intro X hX
          by_cases hck : c = k
          · have HPu := Lib.hid (show ([] : List Dv) ++ KD.take k ++ [⟨⟨n0, n1, n2, n3, n4, n5, n6, n7⟩, ad, 0⟩] ++ KD.drop k = RES from by
              rw [← (HRes k (ahead_of (by rw [HM.out]; exact hk) HAl.out (fun h => absurd h (by rw [HM.out]; omega)))).out]
              simp)
            have HDn := Lib.hid (show KD.drop k = [] from List.drop_eq_nil_of_le (by rw [HM.out]; omega))
            have HLx := Lib.hid (HLq.out.kept hX)
            go_wp2_with (first
              | (refine wpList_lit0 dvL 10 rfl 24 rfl 78 i0 Try.underlying24 HI0.out ?_; intro wA G hg1 hown1 hb1; have HOA := Lib.hid hown1; have gG0 : w.heap.size ≤ G := (by rw [← hg1]; exact HLx.out.below.size); have g_R1 : R1 < G := (by rw [← hg1]; exact HLx.out.lt (.head _)); have g_HIx : HIx ≤ G := (by rw [← hg1]; exact (HLx.out.hi (.head _)).2); have HSzA := Lib.hid (show G ≤ wA.heap.size from (by rw [← hg1]; exact hb1.size)); have LA := Lib.hid (show Lg w wA [(R1, #[.int .i64 n0, .int .i64 n1, .int .i64 n2, .int .i64 n3, .int .i64 n4, .int .i64 n5, .int .i64 n6, .bool n7], 33)] [(LO, HIx, fun W => OwnIn dvL 10 78 LO HIx W (.slice (some ⟨g, 0, none⟩) M c) KD)] from HLx.out.kept hb1); clear hown1 hb1 hg1)
              | (at_builtin; refine wpList_append_rs dvL_len dvL_one rfl (.tmp 65) (.tmp 68) 24 rfl 78 i0 _ 80 Try.underlying24 HI0.out hz0 hz1 hz2 (by kernel_rfl) (by decide) G (wA.heap.size) (.slice (some ⟨G, 0, none⟩) 0 0) (([] : List Dv)) rfl HOA.out _ _ (KD.take k) (slice_len rfl HTk.out) (((LA.out.at (.head _)).rsIn dvL_len).take k) (by have := HM.out; have := HTk.out; have := HDk.out; unfold maxLen; simp <;> omega) (by have := HM.out; have := HTk.out; have := HDk.out; simp <;> omega) (by have := (LA.out.below.size); have := HSzA.out; omega) ?_; intro vB wB hown2 ho2; have HOB := Lib.hid hown2; have LB := Lib.hid (show Lg w wB [(R1, #[.int .i64 n0, .int .i64 n1, .int .i64 n2, .int .i64 n3, .int .i64 n4, .int .i64 n5, .int .i64 n6, .bool n7], 33)] [(LO, HIx, fun W => OwnIn dvL 10 78 LO HIx W (.slice (some ⟨g, 0, none⟩) M c) KD)] from LA.out.out ho2 gG0 (List.forall_mem_cons.2 ⟨Or.inl g_R1, (fun _ h => nomatch h)⟩) (List.forall_mem_cons.2 ⟨.inl g_HIx, (fun _ h => nomatch h)⟩)); have HSzB := Lib.hid (Nat.le_trans HSzA.out ho2.size); clear hown2 ho2)
              | (refine wpList_load_at rfl 33 (.tmp 5) rfl (R1) 0 rfl 33 #[.int .i64 n0, .int .i64 n1, .int .i64 n2, .int .i64 n3, .int .i64 n4, .int .i64 n5, .int .i64 n6, .bool n7] (0, 0) (LB.out.get (.head _)) [.int .i64 n0, .int .i64 n1, .int .i64 n2, .int .i64 n3, .int .i64 n4, .int .i64 n5, .int .i64 n6, .bool n7] rfl _ Try.underlying33 rfl (by kernel_rfl) ?_)
              | (refine wpList_lit1 dvL_len rfl 24 (.tmp 73) rfl 78 i0 Try.underlying24 HI0.out _ hz0 hz1 ⟨⟨n0, n1, n2, n3, n4, n5, n6, n7⟩, ad, 0⟩ (.agg #[.int .i64 n0, .int .i64 n1, .int .i64 n2, .int .i64 n3, .int .i64 n4, .int .i64 n5, .int .i64 n6, .bool n7, .int .i64 ad, .int .i64 0]) rfl rfl (by kernel_rfl) (by decide) (by decide) ?_; intro wC g2 hg2 hinC hbC; have HIC := Lib.hid hinC; have LC := Lib.hid (show Lg w wC [(R1, #[.int .i64 n0, .int .i64 n1, .int .i64 n2, .int .i64 n3, .int .i64 n4, .int .i64 n5, .int .i64 n6, .bool n7], 33)] [(LO, HIx, fun W => OwnIn dvL 10 78 LO HIx W (.slice (some ⟨g, 0, none⟩) M c) KD)] from LB.out.kept hbC); have HOC := Lib.hid (HOB.out.kept hbC); have HSzC := Lib.hid (Nat.le_trans HSzB.out hbC.size); clear hinC hbC hg2)
              | (at_builtin; refine wpList_append_rs dvL_len dvL_one rfl (.tmp 70) (.tmp 74) 24 rfl 78 i0 _ 80 Try.underlying24 HI0.out hz0 hz1 hz2 (by kernel_rfl) (by decide) G (wB.heap.size) (vB) (([] : List Dv) ++ KD.take k) rfl HOC.out _ _ ([⟨⟨n0, n1, n2, n3, n4, n5, n6, n7⟩, ad, 0⟩]) rfl HIC.out (by have := HM.out; have := HTk.out; have := HDk.out; unfold maxLen; simp <;> omega) (by have := HM.out; have := HTk.out; have := HDk.out; simp <;> omega) (by have := (LC.out.below.size); have := HSzC.out; omega) ?_; intro vD wD hown2 ho2; have HOD := Lib.hid hown2; have LD := Lib.hid (show Lg w wD [(R1, #[.int .i64 n0, .int .i64 n1, .int .i64 n2, .int .i64 n3, .int .i64 n4, .int .i64 n5, .int .i64 n6, .bool n7], 33)] [(LO, HIx, fun W => OwnIn dvL 10 78 LO HIx W (.slice (some ⟨g, 0, none⟩) M c) KD)] from LC.out.out ho2 gG0 (List.forall_mem_cons.2 ⟨Or.inl g_R1, (fun _ h => nomatch h)⟩) (List.forall_mem_cons.2 ⟨.inl g_HIx, (fun _ h => nomatch h)⟩)); have HSzD := Lib.hid (Nat.le_trans HSzC.out ho2.size); clear hown2 ho2)
              | (at_builtin; refine wpList_append_rs dvL_len dvL_one rfl (.tmp 76) (.tmp 79) 24 rfl 78 i0 _ 80 Try.underlying24 HI0.out hz0 hz1 hz2 (by kernel_rfl) (by decide) G (wD.heap.size) (vD) (([] : List Dv) ++ KD.take k ++ [⟨⟨n0, n1, n2, n3, n4, n5, n6, n7⟩, ad, 0⟩]) rfl HOD.out _ _ (KD.drop k) (slice_len rfl HDk.out) (.inl HDn.out) (by have := HM.out; have := HTk.out; have := HDk.out; unfold maxLen; simp <;> omega) (by have := HM.out; have := HTk.out; have := HDk.out; simp <;> omega) (by have := (LD.out.below.size); have := HSzD.out; omega) ?_; intro vE wE hown2 ho2; have HOE := Lib.hid hown2; have LE := Lib.hid (show Lg w wE [(R1, #[.int .i64 n0, .int .i64 n1, .int .i64 n2, .int .i64 n3, .int .i64 n4, .int .i64 n5, .int .i64 n6, .bool n7], 33)] [(LO, HIx, fun W => OwnIn dvL 10 78 LO HIx W (.slice (some ⟨g, 0, none⟩) M c) KD)] from LD.out.out ho2 gG0 (List.forall_mem_cons.2 ⟨Or.inl g_R1, (fun _ h => nomatch h)⟩) (List.forall_mem_cons.2 ⟨.inl g_HIx, (fun _ h => nomatch h)⟩)); have HSzE := Lib.hid (Nat.le_trans HSzD.out ho2.size); clear hown2 ho2))
            go_ret
            obtain ⟨aE, cE, hvE, hcE, hnE⟩ := HOE.out.new dvL_len
            rw [HPu.out] at hnE hvE
            exact ⟨aE, cE, by rw [hvE]; rfl, hnE.wide gG0 (Nat.le_refl _), LE.out.below⟩
          · have HPu := Lib.hid (show ([] : List Dv) ++ KD.take k ++ [⟨⟨n0, n1, n2, n3, n4, n5, n6, n7⟩, ad, 0⟩] ++ KD.drop k = RES from by
              rw [← (HRes k (ahead_of (by rw [HM.out]; exact hk) HAl.out (fun h => absurd h (by rw [HM.out]; omega)))).out]
              simp)
            have HDn := Lib.hid (show KD.drop k = [] from List.drop_eq_nil_of_le (by rw [HM.out]; omega))
            have HLx := Lib.hid (HLq.out.kept hX)
            go_wp2_with (first
              | (refine wpList_lit0 dvL 10 rfl 24 rfl 78 i0 Try.underlying24 HI0.out ?_; intro wA G hg1 hown1 hb1; have HOA := Lib.hid hown1; have gG0 : w.heap.size ≤ G := (by rw [← hg1]; exact HLx.out.below.size); have g_R1 : R1 < G := (by rw [← hg1]; exact HLx.out.lt (.head _)); have g_HIx : HIx ≤ G := (by rw [← hg1]; exact (HLx.out.hi (.head _)).2); have HSzA := Lib.hid (show G ≤ wA.heap.size from (by rw [← hg1]; exact hb1.size)); have LA := Lib.hid (show Lg w wA [(R1, #[.int .i64 n0, .int .i64 n1, .int .i64 n2, .int .i64 n3, .int .i64 n4, .int .i64 n5, .int .i64 n6, .bool n7], 33)] [(LO, HIx, fun W => OwnIn dvL 10 78 LO HIx W (.slice (some ⟨g, 0, none⟩) M c) KD)] from HLx.out.kept hb1); clear hown1 hb1 hg1)
              | (at_builtin; refine wpList_append_rs dvL_len dvL_one rfl (.tmp 65) (.tmp 68) 24 rfl 78 i0 _ 80 Try.underlying24 HI0.out hz0 hz1 hz2 (by kernel_rfl) (by decide) G (wA.heap.size) (.slice (some ⟨G, 0, none⟩) 0 0) (([] : List Dv)) rfl HOA.out _ _ (KD.take k) (slice_len rfl HTk.out) (((LA.out.at (.head _)).rsIn dvL_len).take k) (by have := HM.out; have := HTk.out; have := HDk.out; unfold maxLen; simp <;> omega) (by have := HM.out; have := HTk.out; have := HDk.out; simp <;> omega) (by have := (LA.out.below.size); have := HSzA.out; omega) ?_; intro vB wB hown2 ho2; have HOB := Lib.hid hown2; have LB := Lib.hid (show Lg w wB [(R1, #[.int .i64 n0, .int .i64 n1, .int .i64 n2, .int .i64 n3, .int .i64 n4, .int .i64 n5, .int .i64 n6, .bool n7], 33)] [(LO, HIx, fun W => OwnIn dvL 10 78 LO HIx W (.slice (some ⟨g, 0, none⟩) M c) KD)] from LA.out.out ho2 gG0 (List.forall_mem_cons.2 ⟨Or.inl g_R1, (fun _ h => nomatch h)⟩) (List.forall_mem_cons.2 ⟨.inl g_HIx, (fun _ h => nomatch h)⟩)); have HSzB := Lib.hid (Nat.le_trans HSzA.out ho2.size); clear hown2 ho2)
              | (refine wpList_load_at rfl 33 (.tmp 5) rfl (R1) 0 rfl 33 #[.int .i64 n0, .int .i64 n1, .int .i64 n2, .int .i64 n3, .int .i64 n4, .int .i64 n5, .int .i64 n6, .bool n7] (0, 0) (LB.out.get (.head _)) [.int .i64 n0, .int .i64 n1, .int .i64 n2, .int .i64 n3, .int .i64 n4, .int .i64 n5, .int .i64 n6, .bool n7] rfl _ Try.underlying33 rfl (by kernel_rfl) ?_)
              | (refine wpList_lit1 dvL_len rfl 24 (.tmp 73) rfl 78 i0 Try.underlying24 HI0.out _ hz0 hz1 ⟨⟨n0, n1, n2, n3, n4, n5, n6, n7⟩, ad, 0⟩ (.agg #[.int .i64 n0, .int .i64 n1, .int .i64 n2, .int .i64 n3, .int .i64 n4, .int .i64 n5, .int .i64 n6, .bool n7, .int .i64 ad, .int .i64 0]) rfl rfl (by kernel_rfl) (by decide) (by decide) ?_; intro wC g2 hg2 hinC hbC; have HIC := Lib.hid hinC; have LC := Lib.hid (show Lg w wC [(R1, #[.int .i64 n0, .int .i64 n1, .int .i64 n2, .int .i64 n3, .int .i64 n4, .int .i64 n5, .int .i64 n6, .bool n7], 33)] [(LO, HIx, fun W => OwnIn dvL 10 78 LO HIx W (.slice (some ⟨g, 0, none⟩) M c) KD)] from LB.out.kept hbC); have HOC := Lib.hid (HOB.out.kept hbC); have HSzC := Lib.hid (Nat.le_trans HSzB.out hbC.size); clear hinC hbC hg2)
              | (at_builtin; refine wpList_append_rs dvL_len dvL_one rfl (.tmp 70) (.tmp 74) 24 rfl 78 i0 _ 80 Try.underlying24 HI0.out hz0 hz1 hz2 (by kernel_rfl) (by decide) G (wB.heap.size) (vB) (([] : List Dv) ++ KD.take k) rfl HOC.out _ _ ([⟨⟨n0, n1, n2, n3, n4, n5, n6, n7⟩, ad, 0⟩]) rfl HIC.out (by have := HM.out; have := HTk.out; have := HDk.out; unfold maxLen; simp <;> omega) (by have := HM.out; have := HTk.out; have := HDk.out; simp <;> omega) (by have := (LC.out.below.size); have := HSzC.out; omega) ?_; intro vD wD hown2 ho2; have HOD := Lib.hid hown2; have LD := Lib.hid (show Lg w wD [(R1, #[.int .i64 n0, .int .i64 n1, .int .i64 n2, .int .i64 n3, .int .i64 n4, .int .i64 n5, .int .i64 n6, .bool n7], 33)] [(LO, HIx, fun W => OwnIn dvL 10 78 LO HIx W (.slice (some ⟨g, 0, none⟩) M c) KD)] from LC.out.out ho2 gG0 (List.forall_mem_cons.2 ⟨Or.inl g_R1, (fun _ h => nomatch h)⟩) (List.forall_mem_cons.2 ⟨.inl g_HIx, (fun _ h => nomatch h)⟩)); have HSzD := Lib.hid (Nat.le_trans HSzC.out ho2.size); clear hown2 ho2)
              | (at_builtin; refine wpList_append_rs dvL_len dvL_one rfl (.tmp 76) (.tmp 79) 24 rfl 78 i0 _ 80 Try.underlying24 HI0.out hz0 hz1 hz2 (by kernel_rfl) (by decide) G (wD.heap.size) (vD) (([] : List Dv) ++ KD.take k ++ [⟨⟨n0, n1, n2, n3, n4, n5, n6, n7⟩, ad, 0⟩]) rfl HOD.out _ _ (KD.drop k) (slice_len rfl HDk.out) (.inl HDn.out) (by have := HM.out; have := HTk.out; have := HDk.out; unfold maxLen; simp <;> omega) (by have := HM.out; have := HTk.out; have := HDk.out; simp <;> omega) (by have := (LD.out.below.size); have := HSzD.out; omega) ?_; intro vE wE hown2 ho2; have HOE := Lib.hid hown2; have LE := Lib.hid (show Lg w wE [(R1, #[.int .i64 n0, .int .i64 n1, .int .i64 n2, .int .i64 n3, .int .i64 n4, .int .i64 n5, .int .i64 n6, .bool n7], 33)] [(LO, HIx, fun W => OwnIn dvL 10 78 LO HIx W (.slice (some ⟨g, 0, none⟩) M c) KD)] from LD.out.out ho2 gG0 (List.forall_mem_cons.2 ⟨Or.inl g_R1, (fun _ h => nomatch h)⟩) (List.forall_mem_cons.2 ⟨.inl g_HIx, (fun _ h => nomatch h)⟩)); have HSzE := Lib.hid (Nat.le_trans HSzD.out ho2.size); clear hown2 ho2))
            go_ret
            obtain ⟨aE, cE, hvE, hcE, hnE⟩ := HOE.out.new dvL_len
            rw [HPu.out] at hnE hvE
            exact ⟨aE, cE, by rw [hvE]; rfl, hnE.wide gG0 (Nat.le_refl _), LE.out.below⟩
end Go.Proofs.Ytpolpkheaibonaa
/- Who is there once one is heard: the program's. Nothing that was there is written. -/
namespace Go.Proofs.Ytpolpkheaibonaa
open Go.RowKit Go.Shelf
set_option linter.unusedVariables false
attribute [local go_sem] Oper.semAt_some

set_option maxRecDepth 100000 in
set_option maxHeartbeats 16000000 in
theorem stays_any (Rn Ra : Nat) (n : Nm) (ad : Int) (x : Dv) (W : World) (hRn : W.heap[Rn]? = some (.cells #[.int .i64 n.u, .int .i64 n.m, .int .i64 n.i, .int .i64 n.f, .int .i64 n.c, .int .i64 n.s, .int .i64 n.y, .bool n.a] 33 (0, 0))) (hRa : W.heap[Ra]? = some (.cells #[.int .i64 ad] 2 (0, 0))) :
    Calls Try.prog 50 #[.agg (dvL x).toArray, .pointer (some ⟨Rn, 0, none⟩), .pointer (some ⟨Ra, 0, none⟩)] W fun e W' => e = .returned (.bool (staysB ad n x)) ∧ Below W.heap.size W W' := by
  obtain ⟨n0, n1, n2, n3, n4, n5, n6, n7⟩ := n
  obtain ⟨⟨m0, m1, m2, m3, m4, m5, m6, m7⟩, xa, xg⟩ := x
  have HSt := Lib.hid (show staysB ad ⟨n0, n1, n2, n3, n4, n5, n6, n7⟩ ⟨⟨m0, m1, m2, m3, m4, m5, m6, m7⟩, xa, xg⟩ = (!(sameN ⟨m0, m1, m2, m3, m4, m5, m6, m7⟩ ⟨n0, n1, n2, n3, n4, n5, n6, n7⟩) && !(xa == ad)) from rfl)
  have HSame := Lib.hid (show sameN ⟨m0, m1, m2, m3, m4, m5, m6, m7⟩ ⟨n0, n1, n2, n3, n4, n5, n6, n7⟩ = decide (m0 = n0 ∧ m1 = n1 ∧ m2 = n2 ∧ m3 = n3 ∧ m4 = n4 ∧ m5 = n5 ∧ m6 = n6 ∧ m7 = n7) from rfl)
  have HR := Lib.hid hRn
  have HQ := Lib.hid hRa
  have lR := (Array.getElem?_eq_some_iff.1 hRn).1
  have lQ := (Array.getElem?_eq_some_iff.1 hRa).1
  clear hRn hRa
  unfold dvL
  dsimp only at *
  generalize sameN ⟨m0, m1, m2, m3, m4, m5, m6, m7⟩ ⟨n0, n1, n2, n3, n4, n5, n6, n7⟩ = S at *
  generalize staysB ad ⟨n0, n1, n2, n3, n4, n5, n6, n7⟩ ⟨⟨m0, m1, m2, m3, m4, m5, m6, m7⟩, xa, xg⟩ = RES at *
  obtain ⟨b2, hb2⟩ : ∃ b, (xa == ad) = b := ⟨_, rfl⟩
  have hb3 : (xa != ad) = !b2 := by rw [← hb2]; rfl
  rw [hb2] at HSt
  clear hb2
  rcases S with _ | _
  · rw [HSt.out]
    clear HSt
    go_enter Try.func50, Try.ntmps50
    go_wp2_with (first
      | (refine wpList_box_h rfl 78 (.tmp 0) rfl #[.int .i64 m0, .int .i64 m1, .int .i64 m2, .int .i64 m3, .int .i64 m4, .int .i64 m5, .int .i64 m6, .bool m7, .int .i64 xa, .int .i64 xg] rfl ?_; intro w1 R1 e1 g1 b1; have HL1 := Lib.hid (show Lg W w1 [(R1, #[.int .i64 m0, .int .i64 m1, .int .i64 m2, .int .i64 m3, .int .i64 m4, .int .i64 m5, .int .i64 m6, .bool m7, .int .i64 xa, .int .i64 xg], 78)] [] from (Lg.first W).box e1 g1 b1); clear g1 b1 e1; have HR1 := Lib.hid ((HL1.out.below.block Rn lR).trans HR.out); have HQ1 := Lib.hid ((HL1.out.below.block Ra lQ).trans HQ.out))
      | (refine wpList_load_at rfl 33 (.tmp 5) rfl (R1) 0 rfl 78 #[.int .i64 m0, .int .i64 m1, .int .i64 m2, .int .i64 m3, .int .i64 m4, .int .i64 m5, .int .i64 m6, .bool m7, .int .i64 xa, .int .i64 xg] (0, 0) (HL1.out.get (.head _)) [.int .i64 m0, .int .i64 m1, .int .i64 m2, .int .i64 m3, .int .i64 m4, .int .i64 m5, .int .i64 m6, .bool m7] rfl _ Try.underlying33 rfl (by kernel_rfl) ?_)
      | (refine wpList_load_at rfl 33 (.tmp 1) rfl (Rn) 0 rfl 33 #[.int .i64 n0, .int .i64 n1, .int .i64 n2, .int .i64 n3, .int .i64 n4, .int .i64 n5, .int .i64 n6, .bool n7] (0, 0) HR1.out [.int .i64 n0, .int .i64 n1, .int .i64 n2, .int .i64 n3, .int .i64 n4, .int .i64 n5, .int .i64 n6, .bool n7] rfl _ Try.underlying33 rfl (by kernel_rfl) ?_)
      | (refine wpList_neq_nm rfl (.tmp 6) (.tmp 7) _ rfl m0 m1 m2 m3 m4 m5 m6 n0 n1 n2 n3 n4 n5 n6 m7 n7 rfl rfl false HSame.out ?_)
      | (refine wpList_load_one (by kernel_rfl) 2 (.tmp 10) rfl (R1) 8 rfl 78 #[.int .i64 m0, .int .i64 m1, .int .i64 m2, .int .i64 m3, .int .i64 m4, .int .i64 m5, .int .i64 m6, .bool m7, .int .i64 xa, .int .i64 xg] (0, 0) (HL1.out.get (.head _)) (.int .i64 xa) rfl _ Try.underlying2 rfl (by kernel_rfl) ?_)
      | (refine wpList_load_one (by kernel_rfl) 2 (.tmp 2) rfl (Ra) 0 rfl 2 #[.int .i64 ad] (0, 0) HQ1.out (.int .i64 ad) rfl _ Try.underlying2 rfl (by kernel_rfl) ?_))
    go_ret
    exact ⟨by cases b2 <;> rfl, HL1.out.below⟩
  · rw [HSt.out]
    clear HSt
    go_enter Try.func50, Try.ntmps50
    go_wp2_with (first
      | (refine wpList_box_h rfl 78 (.tmp 0) rfl #[.int .i64 m0, .int .i64 m1, .int .i64 m2, .int .i64 m3, .int .i64 m4, .int .i64 m5, .int .i64 m6, .bool m7, .int .i64 xa, .int .i64 xg] rfl ?_; intro w1 R1 e1 g1 b1; have HL1 := Lib.hid (show Lg W w1 [(R1, #[.int .i64 m0, .int .i64 m1, .int .i64 m2, .int .i64 m3, .int .i64 m4, .int .i64 m5, .int .i64 m6, .bool m7, .int .i64 xa, .int .i64 xg], 78)] [] from (Lg.first W).box e1 g1 b1); clear g1 b1 e1; have HR1 := Lib.hid ((HL1.out.below.block Rn lR).trans HR.out); have HQ1 := Lib.hid ((HL1.out.below.block Ra lQ).trans HQ.out))
      | (refine wpList_load_at rfl 33 (.tmp 5) rfl (R1) 0 rfl 78 #[.int .i64 m0, .int .i64 m1, .int .i64 m2, .int .i64 m3, .int .i64 m4, .int .i64 m5, .int .i64 m6, .bool m7, .int .i64 xa, .int .i64 xg] (0, 0) (HL1.out.get (.head _)) [.int .i64 m0, .int .i64 m1, .int .i64 m2, .int .i64 m3, .int .i64 m4, .int .i64 m5, .int .i64 m6, .bool m7] rfl _ Try.underlying33 rfl (by kernel_rfl) ?_)
      | (refine wpList_load_at rfl 33 (.tmp 1) rfl (Rn) 0 rfl 33 #[.int .i64 n0, .int .i64 n1, .int .i64 n2, .int .i64 n3, .int .i64 n4, .int .i64 n5, .int .i64 n6, .bool n7] (0, 0) HR1.out [.int .i64 n0, .int .i64 n1, .int .i64 n2, .int .i64 n3, .int .i64 n4, .int .i64 n5, .int .i64 n6, .bool n7] rfl _ Try.underlying33 rfl (by kernel_rfl) ?_)
      | (refine wpList_neq_nm rfl (.tmp 6) (.tmp 7) _ rfl m0 m1 m2 m3 m4 m5 m6 n0 n1 n2 n3 n4 n5 n6 m7 n7 rfl rfl true HSame.out ?_))
    go_ret
    exact ⟨rfl, HL1.out.below⟩
/-- The block that a row owns, tight: what is no cells lies elsewhere. -/
theorem owns_tight {α : Type} {c : α → List Value} {s : Nat} {e : TypeId} {w : World} {B : Nat} {v : Value} {l : List α} (h : w.ownsRow B e s v l.length (l.flatMap c)) (hB : B ≤ w.heap.size) :
    ∃ lo hi, B ≤ lo ∧ lo ≤ hi ∧ hi ≤ w.heap.size ∧ OwnIn c s e lo hi w v l ∧ ∀ (k : Nat) o, w.heap[k]? = some o → o.isCells = false → k < lo ∨ hi ≤ k := by
  obtain ⟨h0, h1⟩ := h
  rcases h1 with ⟨rfl, h1⟩ | ⟨g, cap, cur, rfl, hb, hg, hr⟩
  · exact ⟨w.heap.size, w.heap.size, hB, Nat.le_refl _, Nat.le_refl _, ⟨⟨h0, .inl ⟨rfl, h1⟩⟩, fun k hk => by cases hk⟩, fun k o hk _ => .inl (Array.getElem?_eq_some_iff.1 hk).1⟩
  · refine ⟨g, g + 1, hb, Nat.le_succ _, (Array.getElem?_eq_some_iff.1 hg).1, ⟨⟨h0, .inr ⟨g, cap, cur, rfl, Nat.le_refl _, hg, hr⟩⟩, fun k hk => by simp [Value.ownBlock] at hk; omega⟩, fun k o hk ho => ?_⟩
    have : k ≠ g := by
      rintro rfl
      rw [hg] at hk
      cases hk
      cases ho
    omega
theorem RsNew.putObj {α : Type} {c : α → List Value} {s : Nat} {e : TypeId} {lo hi : Nat} {w : World} {a : Option Addr} {l : List α} (h : RsNew c s e lo hi w a l) {D : Nat} {o : Obj} (o' : Obj) (hD : w.heap[D]? = some o) (ho : o.isCells = false) : RsNew c s e lo hi (w.putObj D o') a l := by
  rcases h with h | ⟨b, of, row, h1, h2, h3, hg, h4, h5⟩
  · exact .inl h
  · refine .inr ⟨b, of, row, h1, h2, h3, (World.putObj_heap_other ?_).trans hg, h4, h5⟩
    rintro rfl
    rw [hg] at hD
    cases hD
    cases ho
theorem filter_snoc_len (p : Dv → Bool) (l : List Dv) (x : Dv) : ((l ++ [x]).filter p).length = (l.filter p).length + (if p x = true then 1 else 0) := by
  rw [List.filter_append, List.length_append]
  cases h : p x <;> simp [h]
set_option maxRecDepth 100000 in
set_option maxHeartbeats 16000000 in
theorem implDeviceHear_any (a : Option Addr) (cap : Nat) (l : List Dv) (ad : Int) (n : Nm) (w : World) (h : RsIn dvL 10 w a l) (hlen : l.length ≤ 1048576) (hcap : l.length ≤ cap) :
    Calls Try.prog 17 #[.slice a l.length cap, .int .i64 ad, nmV n] w (DvOut w (hearV l ad n)) := by
  have hlenm : l.length ≤ maxLen := by unfold maxLen; omega
  have HDR := fun W (hW : RsIn dvL 10 W a l) => Lib.hid (implDevicesRight_any a cap l W hW hlenm hcap)
  have HNO := fun W => Lib.hid (implNameOk_any n W)
  have HCl := fun W (hW : RsIn dvL 10 W a l) => Lib.hid (clone_d a cap l W hW hlen)
  obtain ⟨i0, hi, hz0, hz1, hz2⟩ := info_parts DeviceTo.info
  have HN0 := Lib.hid (show 400 < l.length → hearV l ad n = [] from fun h => by unfold hearV; rw [if_pos h])
  have HN1 := Lib.hid (show ¬ 400 < l.length → (dvsB l && (okB n && inB 0 255 ad)) = false → hearV l ad n = l from fun h h2 => by unfold hearV; rw [if_neg h, h2]; rfl)
  have HN2 := Lib.hid (show ¬ 400 < l.length → (dvsB l && (okB n && inB 0 255 ad)) = true → hearV l ad n = hearD l ad n from fun h h2 => by unfold hearV; rw [if_neg h, if_pos h2])
  have HKD := Lib.hid (show hearD l ad n = hearD l ad n from rfl)
  have HLess := fun d W => Lib.hid (implNameLess_any d n W)
  unfold DvOut
  obtain ⟨L, hL⟩ : ∃ L, hearV l ad n = L := ⟨_, rfl⟩
  rw [hL] at HN0 HN1 HN2 ⊢
  clear hL
  obtain ⟨n', hn'⟩ : ∃ n', n = n' := ⟨_, rfl⟩
  obtain ⟨n0, n1, n2, n3, n4, n5, n6, n7⟩ := n'
  subst hn'
  unfold nmV at *
  dsimp only at *
  refine (callsIn_wide (n := 3)).1 ?_
  refine callsIn_of_wp_marks Try.func17 rfl trivial ?_ rfl
  simp only [Try.ntmps17, List.size_toArray, List.length_cons, List.length_nil, Nat.reduceAdd, Nat.reduceSub, Array.replicate_succ, Array.replicate_zero, List.push_toArray, List.append_toArray, List.nil_append, List.cons_append]
  have hb2 : Below w.heap.size w ((w.alloc (.cells #[.int .i64 ad] 2)).alloc (.cells #[.int .i64 n0, .int .i64 n1, .int .i64 n2, .int .i64 n3, .int .i64 n4, .int .i64 n5, .int .i64 n6, .bool n7] 33)) := ((Below.refl _ w).alloc (Nat.le_refl _) _).alloc (by simp) _
  have hA2 : (((w.alloc (.cells #[.int .i64 ad] 2)).alloc (.cells #[.int .i64 n0, .int .i64 n1, .int .i64 n2, .int .i64 n3, .int .i64 n4, .int .i64 n5, .int .i64 n6, .bool n7] 33))).heap[w.heap.size]? = some (.cells #[.int .i64 ad] 2) := (Below.heap_alloc _ _ _ (by simp)).trans (World.alloc_heap_new w _)
  have hM2 : (((w.alloc (.cells #[.int .i64 ad] 2)).alloc (.cells #[.int .i64 n0, .int .i64 n1, .int .i64 n2, .int .i64 n3, .int .i64 n4, .int .i64 n5, .int .i64 n6, .bool n7] 33))).heap[w.heap.size + 1]? = some (.cells #[.int .i64 n0, .int .i64 n1, .int .i64 n2, .int .i64 n3, .int .i64 n4, .int .i64 n5, .int .i64 n6, .bool n7] 33) := by have := World.alloc_heap_new (w.alloc (.cells #[.int .i64 ad] 2)) (.cells #[.int .i64 n0, .int .i64 n1, .int .i64 n2, .int .i64 n3, .int .i64 n4, .int .i64 n5, .int .i64 n6, .bool n7] 33); rwa [World.size_alloc] at this
  have hs2 : (((w.alloc (.cells #[.int .i64 ad] 2)).alloc (.cells #[.int .i64 n0, .int .i64 n1, .int .i64 n2, .int .i64 n3, .int .i64 n4, .int .i64 n5, .int .i64 n6, .bool n7] 33))).heap.size = w.heap.size + 2 := by simp
  by_cases h400 : 400 < l.length
  · have hd4 : decide ((400 : Int) < (l.length : Int)) = true := decide_eq_true (by omega)
    have HV := Lib.hid (HN0.out h400)
    have HB2 := Lib.hid hb2
    clear hb2 hA2 hM2 hs2 h400 HDR HNO HCl HN0 HN1 HN2 HKD HLess
    gi_wp2
    rw [HV.out]
    exact ⟨_, results_tmp rfl _ _ _, none, 0, rfl, RsNew.nil _, HB2.out⟩
  have hd4 : decide ((400 : Int) < (l.length : Int)) = false := decide_eq_false (by omega)
  have HA2 := Lib.hid (And.intro hb2 (And.intro hA2 (And.intro hM2 hs2)))
  clear hb2 hA2 hM2 hs2
  have HI1 := Lib.hid (HN1.out h400)
  have HI2 := Lib.hid (HN2.out h400)
  clear HN0 HN1 HN2 h400
  gi_wp2
  refine ⟨trivial, ?_⟩
  refine (callsIn_wide.2 (HDR _ (h.kept HA2.out.1)).out).mono ?_
  rintro e w3 ⟨rfl, h3⟩
  have HB3 := Lib.hid (HA2.out.1.trans (h3.mono HA2.out.1.size))
  have HA3 := Lib.hid ((h3.block w.heap.size (by rw [HA2.out.2.2.2]; omega)).trans HA2.out.2.1)
  have HM3 := Lib.hid ((h3.block (w.heap.size + 1) (by rw [HA2.out.2.2.2]; omega)).trans HA2.out.2.2.1)
  have hs3 : w.heap.size + 2 ≤ w3.heap.size := by have := h3.size; rw [HA2.out.2.2.2] at this; exact this
  clear h3 HDR HA2
  rcases hR : dvsB l with _ | _
  · have HV := Lib.hid (HI1.out (by rw [hR]; rfl))
    clear hR HI1 HI2 HKD HLess HNO
    gi_wp2
    refine ⟨trivial, ?_⟩
    gi_wp2
    refine ⟨trivial, ?_⟩
    gi_wp2
    refine ⟨trivial, ?_⟩
    refine (callsIn_wide.2 (HCl _ (h.kept HB3.out)).out).mono ?_
    rintro e w9 ⟨v, rfl, hown, h9⟩
    obtain ⟨a', cap', rfl, _, hn⟩ := hown.new dvL_len
    gi_wp2
    rw [HV.out]
    exact ⟨_, results_tmp rfl _ _ _, a', cap', rfl, hn.wide (by have := HB3.out.size; omega) (Nat.le_refl _), HB3.out.trans (h9.mono HB3.out.size)⟩
  have HR := Lib.hid hR
  have k0 : w3.cell? ⟨w.heap.size + 1, 0, none⟩ = some (.int .i64 n0) := cell_of_row w3 (w.heap.size + 1) 0 _ _ (0, 0) HM3.out
  have k1 : w3.cell? ⟨w.heap.size + 1, 1, none⟩ = some (.int .i64 n1) := cell_of_row w3 (w.heap.size + 1) 1 _ _ (0, 0) HM3.out
  have k2 : w3.cell? ⟨w.heap.size + 1, 2, none⟩ = some (.int .i64 n2) := cell_of_row w3 (w.heap.size + 1) 2 _ _ (0, 0) HM3.out
  have k3 : w3.cell? ⟨w.heap.size + 1, 3, none⟩ = some (.int .i64 n3) := cell_of_row w3 (w.heap.size + 1) 3 _ _ (0, 0) HM3.out
  have k4 : w3.cell? ⟨w.heap.size + 1, 4, none⟩ = some (.int .i64 n4) := cell_of_row w3 (w.heap.size + 1) 4 _ _ (0, 0) HM3.out
  have k5 : w3.cell? ⟨w.heap.size + 1, 5, none⟩ = some (.int .i64 n5) := cell_of_row w3 (w.heap.size + 1) 5 _ _ (0, 0) HM3.out
  have k6 : w3.cell? ⟨w.heap.size + 1, 6, none⟩ = some (.int .i64 n6) := cell_of_row w3 (w.heap.size + 1) 6 _ _ (0, 0) HM3.out
  have k7 : w3.cell? ⟨w.heap.size + 1, 7, none⟩ = some (.bool n7) := cell_of_row w3 (w.heap.size + 1) 7 _ _ (0, 0) HM3.out
  clear hR
  gi_wp2
  refine ⟨trivial, ?_⟩
  refine (callsIn_wide.2 (HNO _).out).mono ?_
  rintro e w4 ⟨rfl, h4⟩
  have HB4 := Lib.hid (HB3.out.trans (h4.mono HB3.out.size))
  have HA4 := Lib.hid ((h4.block w.heap.size (by omega)).trans HA3.out)
  have HM4 := Lib.hid ((h4.block (w.heap.size + 1) (by omega)).trans HM3.out)
  have hs4 : w.heap.size + 2 ≤ w4.heap.size := Nat.le_trans hs3 h4.size
  clear h4 HNO HB3 HA3 HM3 hs3 k0 k1 k2 k3 k4 k5 k6 k7
  rcases hO : okB ⟨n0, n1, n2, n3, n4, n5, n6, n7⟩ with _ | _
  · have HV := Lib.hid (HI1.out (by rw [HR.out, hO]; rfl))
    clear hO HI1 HI2 HKD HLess HR
    gi_wp2
    refine ⟨trivial, ?_⟩
    gi_wp2
    refine ⟨trivial, ?_⟩
    refine (callsIn_wide.2 (HCl _ (h.kept HB4.out)).out).mono ?_
    rintro e w9 ⟨v, rfl, hown, h9⟩
    obtain ⟨a', cap', rfl, _, hn⟩ := hown.new dvL_len
    gi_wp2
    rw [HV.out]
    exact ⟨_, results_tmp rfl _ _ _, a', cap', rfl, hn.wide (by have := HB4.out.size; omega) (Nat.le_refl _), HB4.out.trans (h9.mono HB4.out.size)⟩
  have HO := Lib.hid hO
  have k0 : w4.cell? ⟨w.heap.size, 0, none⟩ = some (.int .i64 ad) := cell_of_row w4 w.heap.size 0 _ _ (0, 0) HA4.out
  clear hO
  gi_wp2
  refine ⟨trivial, ?_⟩
  refine (callsIn_wide.2 (from0_any ad 255 _)).mono ?_
  rintro e w' ⟨rfl, rfl⟩
  rcases hT : inB 0 255 ad with _ | _
  · have HV := Lib.hid (HI1.out (by rw [HR.out, HO.out, hT]; rfl))
    clear hT HI1 HI2 HKD HLess HR HO
    gi_wp2
    refine ⟨trivial, ?_⟩
    refine (callsIn_wide.2 (HCl _ (h.kept HB4.out)).out).mono ?_
    rintro e w9 ⟨v, rfl, hown, h9⟩
    obtain ⟨a', cap', rfl, _, hn⟩ := hown.new dvL_len
    gi_wp2
    rw [HV.out]
    exact ⟨_, results_tmp rfl _ _ _, a', cap', rfl, hn.wide (by have := HB4.out.size; omega) (Nat.le_refl _), HB4.out.trans (h9.mono HB4.out.size)⟩
  have HV := Lib.hid (HI2.out (by rw [HR.out, HO.out, hT]; rfl))
  have H8 := Lib.hid (dvsB_of HR.out)
  have hT0 := (inB_of hT).1
  clear hT HI1 HI2 HCl k0
  gi_wp2
  refine ⟨trivial, ?_⟩
  refine (callsIn_wide.2 (those_any a l.length cap 50 #[.pointer (some ⟨w.heap.size + 1, 0, none⟩), .pointer (some ⟨w.heap.size, 0, none⟩)] ((w4.alloc (.cells #[.slice none 0 0] 24)).alloc (.cells #[.int .i64 0] 3)))).mono ?_
  rintro e w6 ⟨rfl, hw6⟩
  obtain ⟨B, hB⟩ : ∃ B, w4.heap.size = B := ⟨_, rfl⟩
  have hBs : ((w4.alloc (.cells #[.slice none 0 0] 24)).alloc (.cells #[.int .i64 0] 3)).heap.size = B + 2 := by simp [hB]
  have HB6 : Below B w4 w6 := by rw [hw6, ← hB]; exact ((((Below.refl _ w4).alloc (Nat.le_refl _) _).alloc (by simp) _).alloc (by simp; omega) _).alloc (by simp; omega) _
  have hs6 : w6.heap.size = B + 4 := by rw [hw6]; simp [hB]
  have bK : Boxed w6 B 24 (.slice none 0 0) := by rw [hw6, ← hB]; exact (((Boxed.new w4 _ _).alloc _).alloc _).alloc _
  have bP : Boxed w6 (B + 1) 3 (.int .i64 0) := by
    rw [hw6]
    have := ((Boxed.new (w4.alloc (.cells #[.slice none 0 0] 24)) 3 (.int .i64 0)).alloc (.cells #[.slice a l.length cap] 24)).alloc (.cells #[.func (.func 50) #[] #[.pointer (some ⟨w.heap.size + 1, 0, none⟩), .pointer (some ⟨w.heap.size, 0, none⟩)]] 82)
    rw [World.size_alloc, hB] at this
    exact this
  have bS : w6.cell? ⟨B + 2, 0, none⟩ = some (.slice a l.length cap) := by rw [hw6, ← hBs]; exact ((Boxed.new _ _ _).alloc _).cell
  have bF : Boxed w6 (B + 2 + 1) 82 (.func (.func 50) #[] #[.pointer (some ⟨w.heap.size + 1, 0, none⟩), .pointer (some ⟨w.heap.size, 0, none⟩)]) := by
    rw [hw6]
    have := Boxed.new (((w4.alloc (.cells #[.slice none 0 0] 24)).alloc (.cells #[.int .i64 0] 3)).alloc (.cells #[.slice a l.length cap] 24)) 82 (.func (.func 50) #[] #[.pointer (some ⟨w.heap.size + 1, 0, none⟩), .pointer (some ⟨w.heap.size, 0, none⟩)])
    rw [World.size_alloc, hBs] at this
    exact this
  have HW6 := Lib.hid (HB4.out.trans (HB6.mono (by omega)))
  have HA6 := Lib.hid ((HB6.block w.heap.size (by omega)).trans HA4.out)
  have HM6 := Lib.hid ((HB6.block (w.heap.size + 1) (by omega)).trans HM4.out)
  have HBS := Lib.hid bS
  have HBF := Lib.hid bF
  have HBK := Lib.hid bK
  have HBP := Lib.hid bP
  rw [hBs, hB]
  have hs4' : w.heap.size + 2 ≤ B := by omega
  clear hw6 HB6 bS bF bK bP hBs hB hs4 HB4 HA4 HM4
  have HLen := Lib.hid (filter_snoc_len (fun d => nmLessB d.n ⟨n0, n1, n2, n3, n4, n5, n6, n7⟩))
  have HAh := Lib.hid (ahead_filter HR.out ad ⟨n0, n1, n2, n3, n4, n5, n6, n7⟩)
  have HKl := Lib.hid (kept_len l ad ⟨n0, n1, n2, n3, n4, n5, n6, n7⟩)
  have HNo := Lib.hid (@hearD_no l ad ⟨n0, n1, n2, n3, n4, n5, n6, n7⟩)
  have HYes := fun k => Lib.hid (@hearD_yes l ad ⟨n0, n1, n2, n3, n4, n5, n6, n7⟩ k)
  gi_wp2
  refine wpIn_rangeFunc_ownH rfl (by omega) (gf := 94) (lb := #[.pointer (some ⟨B + 2, 0, none⟩), .pointer (some ⟨B + 2 + 1, 0, none⟩)]) rfl trivial (enters_of Try.func94 (by kernel_rfl) rfl)
    (those_stops 2 (by omega) (B + 2) (B + 2 + 1) B a cap l (staysB ad ⟨n0, n1, n2, n3, n4, n5, n6, n7⟩) 50 #[.pointer (some ⟨w.heap.size + 1, 0, none⟩), .pointer (some ⟨w.heap.size, 0, none⟩)] (enters_of Try.func50 (by kernel_rfl) rfl) hlenm w6 (by omega) (by omega) (by omega)
      (fun x W' hW => stays_any (w.heap.size + 1) w.heap.size ⟨n0, n1, n2, n3, n4, n5, n6, n7⟩ ad x W' ((hW.block _ (by omega)).trans HM6.out) ((hW.block _ (by omega)).trans HA6.out)) HBS.out HBF.out.cell (fun W' hW => h.kept (HW6.out.trans (hW.mono (by omega)))))
    kpB_t (kpB_b (by omega) (by omega)) (Below.refl _ _) (fun _ => rfl)
    (fun (pre : List Dv) W => (∃ v, Boxed W B 24 v ∧ W.ownsRow B 78 10 v pre.length (pre.flatMap dvL) ∧ (pre = pre)) ∧ (Boxed W (B + 1) 3 (.int .i64 (((pre.filter (fun d => nmLessB d.n ⟨n0, n1, n2, n3, n4, n5, n6, n7⟩)).length : Nat) : Int)) ∧ (Boxed W (B + 2 + 1) 82 (.func (.func 50) #[] #[.pointer (some ⟨w.heap.size + 1, 0, none⟩), .pointer (some ⟨w.heap.size, 0, none⟩)]) ∧ Below B w6 W)))
    (fun _ _ _ => False)
    (OwnFrom.and (Own.from (holdsRow_own B B 24 78 10 (fun (pre : List Dv) => pre.length) (fun (pre : List Dv) => pre.flatMap dvL) (fun (pre : List Dv) _ => pre = pre)) _) (OwnFrom.and (Own.from (boxed_own _ _ _) _) (OwnFrom.and (Own.from (boxed_own _ _ _) _) (ownFrom_below (by omega) (by omega)))))
    (fun _ _ _ _ _ hs _ _ => hs)
    ⟨⟨_, HBK.out, World.ownsRow_nil _ _ _ _, rfl⟩, HBP.out, HBF.out, Below.refl _ _⟩
    (fun x a' W => ∃ Bx v, B < Bx ∧ W.heap[Bx]? = some (.cells (dvL x).toArray 78 (0, 0)) ∧ (Boxed W B 24 v ∧ v.ownBlock ≠ some Bx ∧ B + 4 ≤ Bx) ∧ a' = { tmps := #[.slice a l.length cap, .int .i64 ad, .agg #[.int .i64 n0, .int .i64 n1, .int .i64 n2, .int .i64 n3, .int .i64 n4, .int .i64 n5, .int .i64 n6, .bool n7], undef, .pointer (some ⟨w.heap.size, 0, none⟩), .pointer (some ⟨w.heap.size + 1, 0, none⟩), .slice none 0 0, .func (.func 50) #[] #[.pointer (some ⟨w.heap.size + 1, 0, none⟩), .pointer (some ⟨w.heap.size, 0, none⟩)], .pointer (some ⟨B, 0, none⟩), .pointer (some ⟨B + 1, 0, none⟩), .pointer (some ⟨Bx, 0, none⟩), .slice a l.length cap, .int .i64 (l.length : Int), .bool false, .slice a l.length cap, .bool true, .bool false, .bool false, .agg #[.int .i64 n0, .int .i64 n1, .int .i64 n2, .int .i64 n3, .int .i64 n4, .int .i64 n5, .int .i64 n6, .bool n7], .bool true, .bool false, .bool false, .bool false, .int .i64 ad, .bool true, .bool false, .bool false, undef, undef, .func (.func 50) #[] #[.pointer (some ⟨w.heap.size + 1, 0, none⟩), .pointer (some ⟨w.heap.size, 0, none⟩)], .slice a l.length cap, .func (.func 50) #[] #[.pointer (some ⟨w.heap.size + 1, 0, none⟩), .pointer (some ⟨w.heap.size, 0, none⟩)], .func (.func 94) #[] #[.pointer (some ⟨B + 2, 0, none⟩), .pointer (some ⟨B + 2 + 1, 0, none⟩)], .agg (dvL x).toArray, undef, undef, undef, undef, undef, undef, undef, undef, undef, undef, undef, undef, undef, undef, undef, undef, undef, undef, undef, undef, undef, undef, undef, undef, undef], defers := [] })
    (fun x a' _ X Y row hs hg hr => by obtain ⟨Bx, v, e1, e2, ⟨e4, e5, e6⟩, e3⟩ := hs; exact ⟨Bx, v, e1, (grownBy_keeps_cells hg (fun r e => (hr r e).2) e2 rfl).trans e2, ⟨(grownBy_keeps_cells hg (fun r e => (hr r e).2) e4 rfl).trans e4, e5, e6⟩, e3⟩)
    ?assign ?body ?done ?stop
  case assign =>
    rintro lp pre x W K ⟨⟨v, bV, hrow, hp⟩, bP, bF, hB⟩ hK
    obtain ⟨⟨m0, m1, m2, m3, m4, m5, m6, m7⟩, xa, xg⟩ := x
    have hKK := Lib.hid hK
    have hWs : B + 4 ≤ W.heap.size := by have := hB.size; omega
    have hne : v.ownBlock ≠ some W.heap.size := fun e => Nat.lt_irrefl _ (World.ownsRow.lt hrow _ e).2
    have hrr := Lib.hid (hrow.alloc (.cells #[.int .i64 m0, .int .i64 m1, .int .i64 m2, .int .i64 m3, .int .i64 m4, .int .i64 m5, .int .i64 m6, .bool m7, .int .i64 xa, .int .i64 xg] 78))
    clear hK hrow
    unfold dvL
    gi_wp2
    exact hKK.out _ _ ((KeepsOthers.alloc _ _).from _) ⟨(Below.refl _ W).alloc (by omega) _, Below.heap_alloc _ _ _ (by omega)⟩ ⟨⟨v, bV.alloc _, hrr.out, hp⟩, bP.alloc _, bF.alloc _, hB.alloc (by omega) _⟩ ⟨W.heap.size, v, by omega, World.alloc_heap_new W _, ⟨bV.alloc _, hne, hWs⟩, rfl⟩
  case body =>
    rintro lp pre x a' W hl _ ⟨⟨v, bV, hrow, -⟩, bP, bF, hB⟩ ⟨Bx, v2, hBx, bX, ⟨bV2, hne, hB4⟩, rfl⟩ hlt
    have hvv : v = v2 := by
      have := (show W.heap[B]? = _ from bV).symm.trans bV2
      simpa using this
    subst hvv
    clear bV2
    have hlt8 := H8.out.1
    have lX : Bx < W.heap.size := (Array.getElem?_eq_some_iff.1 bX).1
    have bN := (hB.block (w.heap.size + 1) (by omega)).trans HM6.out
    have hWs : B + 4 ≤ W.heap.size := by have := hB.size; omega
    obtain ⟨⟨m0, m1, m2, m3, m4, m5, m6, m7⟩, xa, xg⟩ := x
    have HLx := fun W => HLess ⟨m0, m1, m2, m3, m4, m5, m6, m7⟩ W
    have HLS0 := HLen.out pre ⟨⟨m0, m1, m2, m3, m4, m5, m6, m7⟩, xa, xg⟩
    dsimp only at HLx HLS0
    generalize hLS : nmLessB ⟨m0, m1, m2, m3, m4, m5, m6, m7⟩ ⟨n0, n1, n2, n3, n4, n5, n6, n7⟩ = LS at HLx HLS0
    have hcl := List.length_filter_le (fun d : Dv => nmLessB d.n ⟨n0, n1, n2, n3, n4, n5, n6, n7⟩) pre
    generalize hcn : (pre.filter (fun d => nmLessB d.n ⟨n0, n1, n2, n3, n4, n5, n6, n7⟩)).length = cn at *
    unfold dvL at bX
    have c0 : W.cell? ⟨Bx, 0, none⟩ = some (.int .i64 m0) := cell_of_row W Bx 0 _ _ (0, 0) bX
    have c1 : W.cell? ⟨Bx, 1, none⟩ = some (.int .i64 m1) := cell_of_row W Bx 1 _ _ (0, 0) bX
    have c2 : W.cell? ⟨Bx, 2, none⟩ = some (.int .i64 m2) := cell_of_row W Bx 2 _ _ (0, 0) bX
    have c3 : W.cell? ⟨Bx, 3, none⟩ = some (.int .i64 m3) := cell_of_row W Bx 3 _ _ (0, 0) bX
    have c4 : W.cell? ⟨Bx, 4, none⟩ = some (.int .i64 m4) := cell_of_row W Bx 4 _ _ (0, 0) bX
    have c5 : W.cell? ⟨Bx, 5, none⟩ = some (.int .i64 m5) := cell_of_row W Bx 5 _ _ (0, 0) bX
    have c6 : W.cell? ⟨Bx, 6, none⟩ = some (.int .i64 m6) := cell_of_row W Bx 6 _ _ (0, 0) bX
    have c7 : W.cell? ⟨Bx, 7, none⟩ = some (.bool m7) := cell_of_row W Bx 7 _ _ (0, 0) bX
    have f0 : W.cell? ⟨w.heap.size + 1, 0, none⟩ = some (.int .i64 n0) := cell_of_row W (w.heap.size + 1) 0 _ _ (0, 0) bN
    have f1 : W.cell? ⟨w.heap.size + 1, 1, none⟩ = some (.int .i64 n1) := cell_of_row W (w.heap.size + 1) 1 _ _ (0, 0) bN
    have f2 : W.cell? ⟨w.heap.size + 1, 2, none⟩ = some (.int .i64 n2) := cell_of_row W (w.heap.size + 1) 2 _ _ (0, 0) bN
    have f3 : W.cell? ⟨w.heap.size + 1, 3, none⟩ = some (.int .i64 n3) := cell_of_row W (w.heap.size + 1) 3 _ _ (0, 0) bN
    have f4 : W.cell? ⟨w.heap.size + 1, 4, none⟩ = some (.int .i64 n4) := cell_of_row W (w.heap.size + 1) 4 _ _ (0, 0) bN
    have f5 : W.cell? ⟨w.heap.size + 1, 5, none⟩ = some (.int .i64 n5) := cell_of_row W (w.heap.size + 1) 5 _ _ (0, 0) bN
    have f6 : W.cell? ⟨w.heap.size + 1, 6, none⟩ = some (.int .i64 n6) := cell_of_row W (w.heap.size + 1) 6 _ _ (0, 0) bN
    have f7 : W.cell? ⟨w.heap.size + 1, 7, none⟩ = some (.bool n7) := cell_of_row W (w.heap.size + 1) 7 _ _ (0, 0) bN
    have HX0 := Lib.hid bX
    have HV0 := Lib.hid (And.intro bV (And.intro hrow (And.intro bP bF)))
    clear bX bV hrow bP bF bN
    gi_wp2
    refine ⟨trivial, ?_⟩
    refine (CallsIn.inRound lp (callsIn_wide.2 (HLx _).out)).mono ?_
    rintro e W1 ⟨rfl, h1⟩
    have bX1 := (h1.block Bx lX).trans HX0.out
    have bV1 : Boxed W1 B 24 v := (h1.block B (by omega)).trans HV0.out.1
    have hrow1 := owns_below HV0.out.2.1 h1
    have bP1 : Boxed W1 (B + 1) 3 (.int .i64 (cn : Int)) := (h1.block (B + 1) (by omega)).trans HV0.out.2.2.1
    have bF1 : Boxed W1 (B + 2 + 1) 82 (.func (.func 50) #[] #[.pointer (some ⟨w.heap.size + 1, 0, none⟩), .pointer (some ⟨w.heap.size, 0, none⟩)]) := (h1.block (B + 2 + 1) (by omega)).trans HV0.out.2.2.2
    have hK1 : KeepsOthers W W1 := KeepsOthers.of_grownBy (grownOfBelow (r := none) h1) (fun j o e hj => by cases e)
    have hB1 : Below B W W1 := h1.mono (by omega)
    clear h1 c0 c1 c2 c3 c4 c5 c6 c7 f0 f1 f2 f3 f4 f5 f6 f7 HLx
    rcases LS with _ | _
    · have HLS1 : (List.filter (fun d => nmLessB d.n ⟨n0, n1, n2, n3, n4, n5, n6, n7⟩) (pre ++ [⟨⟨m0, m1, m2, m3, m4, m5, m6, m7⟩, xa, xg⟩])).length = cn := by rw [HLS0]; simp
      have hF2 : W1.heap[B + 2 + 1]? = W.heap[B + 2 + 1]? := (show W1.heap[B + 2 + 1]? = _ from bF1).trans (show W.heap[B + 2 + 1]? = _ from HV0.out.2.2.2).symm
      have e0 : W1.cell? ⟨Bx, 0, none⟩ = some (.int .i64 m0) := cell_of_row W1 Bx 0 _ _ (0, 0) bX1
      have e1 : W1.cell? ⟨Bx, 1, none⟩ = some (.int .i64 m1) := cell_of_row W1 Bx 1 _ _ (0, 0) bX1
      have e2 : W1.cell? ⟨Bx, 2, none⟩ = some (.int .i64 m2) := cell_of_row W1 Bx 2 _ _ (0, 0) bX1
      have e3 : W1.cell? ⟨Bx, 3, none⟩ = some (.int .i64 m3) := cell_of_row W1 Bx 3 _ _ (0, 0) bX1
      have e4 : W1.cell? ⟨Bx, 4, none⟩ = some (.int .i64 m4) := cell_of_row W1 Bx 4 _ _ (0, 0) bX1
      have e5 : W1.cell? ⟨Bx, 5, none⟩ = some (.int .i64 m5) := cell_of_row W1 Bx 5 _ _ (0, 0) bX1
      have e6 : W1.cell? ⟨Bx, 6, none⟩ = some (.int .i64 m6) := cell_of_row W1 Bx 6 _ _ (0, 0) bX1
      have e7 : W1.cell? ⟨Bx, 7, none⟩ = some (.bool m7) := cell_of_row W1 Bx 7 _ _ (0, 0) bX1
      have e8 : W1.cell? ⟨Bx, 8, none⟩ = some (.int .i64 xa) := cell_of_row W1 Bx 8 _ _ (0, 0) bX1
      have e9 : W1.cell? ⟨Bx, 9, none⟩ = some (.int .i64 xg) := cell_of_row W1 Bx 9 _ _ (0, 0) bX1
      have hc := bV1.cell
      have hs2 : B ≤ W1.heap.size := by have := (Array.getElem?_eq_some_iff.1 bX1).1; omega
      have HQ := Lib.hid (And.intro bF1 bX1)
      clear bF1 bX1
      gi_wp2_with (gi_at_builtin; refine wpListIn_append_own _ rfl _ _ 24 rfl B 78 i0 _ 10 80 Try.underlying24 hi hz0 hz1 hz2 (by kernel_rfl) (by decide) v pre.length (pre.flatMap dvL) rfl (hrow1.alloc _) ⟨W1.heap.size, 0, none⟩ 1 1 [.int .i64 m0, .int .i64 m1, .int .i64 m2, .int .i64 m3, .int .i64 m4, .int .i64 m5, .int .i64 m6, .bool m7, .int .i64 xa, .int .i64 xg] rfl rfl (cells_one_item _ _ _) (dvL_one ⟨⟨m0, m1, m2, m3, m4, m5, m6, m7⟩, xa, xg⟩) (by unfold maxLen; omega) (by omega) (by have := hs2; simp; omega) ?_; intro v' w1 hown' hgrow _; obtain ⟨g', cap', rfl⟩ := ownsRow_succ hown'; obtain ⟨hv1, hv2, hr2, hk2, hb2⟩ := bV1.appended (by decide) hrow1 hs2 (Nat.le_refl _) hown' hgrow; have hc1 := hv1.cell; have hf1 := hv1.frozen)
      have bF1 := HQ.out.1
      have hbF : (w1.setCell ⟨B, 0, none⟩ (.slice (some ⟨g', 0, none⟩) (pre.length + 1) cap')).heap[B + 2 + 1]? = W1.heap[B + 2 + 1]? := by
        refine (Below.heap_setCell w1 ⟨B, 0, none⟩ _ (B + 2 + 1) (by show B + 2 + 1 ≠ B; omega)).trans ?_
        exact ((bF1.alloc _).kept hgrow (bF1.not_row (by decide) hrow1)).trans bF1.symm
      have hbP : (w1.setCell ⟨B, 0, none⟩ (.slice (some ⟨g', 0, none⟩) (pre.length + 1) cap')).heap[B + 1]? = W1.heap[B + 1]? := by
        refine (Below.heap_setCell w1 ⟨B, 0, none⟩ _ (B + 1) (by show B + 1 ≠ B; omega)).trans ?_
        exact ((bP1.alloc _).kept hgrow (bP1.not_row (by decide) hrow1)).trans bP1.symm
      exact ⟨(hK1.trans hk2).from _, ⟨hB1.trans hb2, hbF.trans hF2⟩, ⟨_, hv2, by rw [List.length_append, dv_flat_snoc]; exact hr2⟩, (show Boxed _ _ _ _ from by rw [HLS1]; exact hbP.trans bP1), hbF.trans bF1, hB.trans (hB1.trans hb2)⟩
    · have HLS1 : (List.filter (fun d => nmLessB d.n ⟨n0, n1, n2, n3, n4, n5, n6, n7⟩) (pre ++ [⟨⟨m0, m1, m2, m3, m4, m5, m6, m7⟩, xa, xg⟩])).length = cn + 1 := by rw [HLS0]; simp
      have hw : IntKind.i64.wrap ((cn : Int) + 1) = (cn : Int) + 1 := IntWalk.i64_in _ (by omega)
      have hcp := bP1.cell
      have hfp := bP1.frozen
      obtain ⟨W2, hW2⟩ : ∃ W2, W1.setCell ⟨B + 1, 0, none⟩ (.int .i64 ((cn : Int) + 1)) = W2 := ⟨_, rfl⟩
      have hX2 : W2.heap[Bx]? = some (.cells #[.int .i64 m0, .int .i64 m1, .int .i64 m2, .int .i64 m3, .int .i64 m4, .int .i64 m5, .int .i64 m6, .bool m7, .int .i64 xa, .int .i64 xg] 78 (0, 0)) := by rw [← hW2]; exact (Below.heap_setCell W1 ⟨B + 1, 0, none⟩ _ Bx (by show Bx ≠ B + 1; omega)).trans bX1
      have bV2 : Boxed W2 B 24 v := by rw [← hW2]; exact (Below.heap_setCell W1 ⟨B + 1, 0, none⟩ _ B (by show B ≠ B + 1; omega)).trans bV1
      have bP2 : Boxed W2 (B + 1) 3 (.int .i64 ((cn : Int) + 1)) := by rw [← hW2]; exact bP1.set _
      have bF2 : Boxed W2 (B + 2 + 1) 82 (.func (.func 50) #[] #[.pointer (some ⟨w.heap.size + 1, 0, none⟩), .pointer (some ⟨w.heap.size, 0, none⟩)]) := by rw [← hW2]; exact (Below.heap_setCell W1 ⟨B + 1, 0, none⟩ _ (B + 2 + 1) (by show B + 2 + 1 ≠ B + 1; omega)).trans bF1
      have hrow2 : W2.ownsRow B 78 10 v pre.length (pre.flatMap dvL) := by rw [← hW2]; exact owns_set hrow1 (fun e => (bP1.not_row (by decide) hrow1) e.symm) _
      have hB2 : Below B W W2 := by rw [← hW2]; exact hB1.setCell (p := ⟨B + 1, 0, none⟩) (by show B ≤ B + 1; omega) _
      have hK2 : KeepsOthers W W2 := by rw [← hW2]; exact hK1.trans (KeepsOthers.setCell _ _ _)
      have hF2 : W2.heap[B + 2 + 1]? = W.heap[B + 2 + 1]? := (show W2.heap[B + 2 + 1]? = _ from bF2).trans (show W.heap[B + 2 + 1]? = _ from HV0.out.2.2.2).symm
      have e0 : W2.cell? ⟨Bx, 0, none⟩ = some (.int .i64 m0) := cell_of_row W2 Bx 0 _ _ (0, 0) hX2
      have e1 : W2.cell? ⟨Bx, 1, none⟩ = some (.int .i64 m1) := cell_of_row W2 Bx 1 _ _ (0, 0) hX2
      have e2 : W2.cell? ⟨Bx, 2, none⟩ = some (.int .i64 m2) := cell_of_row W2 Bx 2 _ _ (0, 0) hX2
      have e3 : W2.cell? ⟨Bx, 3, none⟩ = some (.int .i64 m3) := cell_of_row W2 Bx 3 _ _ (0, 0) hX2
      have e4 : W2.cell? ⟨Bx, 4, none⟩ = some (.int .i64 m4) := cell_of_row W2 Bx 4 _ _ (0, 0) hX2
      have e5 : W2.cell? ⟨Bx, 5, none⟩ = some (.int .i64 m5) := cell_of_row W2 Bx 5 _ _ (0, 0) hX2
      have e6 : W2.cell? ⟨Bx, 6, none⟩ = some (.int .i64 m6) := cell_of_row W2 Bx 6 _ _ (0, 0) hX2
      have e7 : W2.cell? ⟨Bx, 7, none⟩ = some (.bool m7) := cell_of_row W2 Bx 7 _ _ (0, 0) hX2
      have e8 : W2.cell? ⟨Bx, 8, none⟩ = some (.int .i64 xa) := cell_of_row W2 Bx 8 _ _ (0, 0) hX2
      have e9 : W2.cell? ⟨Bx, 9, none⟩ = some (.int .i64 xg) := cell_of_row W2 Bx 9 _ _ (0, 0) hX2
      have hc := bV2.cell
      have hs2 : B ≤ W2.heap.size := by have := (Array.getElem?_eq_some_iff.1 hX2).1; omega
      have HQ := Lib.hid (And.intro bF2 hX2)
      clear bF2 hX2
      gi_wp2_with (gi_at_builtin; refine wpListIn_append_own _ rfl _ _ 24 rfl B 78 i0 _ 10 80 Try.underlying24 hi hz0 hz1 hz2 (by kernel_rfl) (by decide) v pre.length (pre.flatMap dvL) rfl (hrow2.alloc _) ⟨W2.heap.size, 0, none⟩ 1 1 [.int .i64 m0, .int .i64 m1, .int .i64 m2, .int .i64 m3, .int .i64 m4, .int .i64 m5, .int .i64 m6, .bool m7, .int .i64 xa, .int .i64 xg] rfl rfl (cells_one_item _ _ _) (dvL_one ⟨⟨m0, m1, m2, m3, m4, m5, m6, m7⟩, xa, xg⟩) (by unfold maxLen; omega) (by omega) (by have := hs2; simp; omega) ?_; intro v' w1 hown' hgrow _; obtain ⟨g', cap', rfl⟩ := ownsRow_succ hown'; obtain ⟨hv1, hv2, hr2, hk2, hb2⟩ := bV2.appended (by decide) hrow2 hs2 (Nat.le_refl _) hown' hgrow; have hc1 := hv1.cell; have hf1 := hv1.frozen)
      have bF2 := HQ.out.1
      have hbF : (w1.setCell ⟨B, 0, none⟩ (.slice (some ⟨g', 0, none⟩) (pre.length + 1) cap')).heap[B + 2 + 1]? = W2.heap[B + 2 + 1]? := by
        refine (Below.heap_setCell w1 ⟨B, 0, none⟩ _ (B + 2 + 1) (by show B + 2 + 1 ≠ B; omega)).trans ?_
        exact ((bF2.alloc _).kept hgrow (bF2.not_row (by decide) hrow2)).trans bF2.symm
      have hbP : (w1.setCell ⟨B, 0, none⟩ (.slice (some ⟨g', 0, none⟩) (pre.length + 1) cap')).heap[B + 1]? = W2.heap[B + 1]? := by
        refine (Below.heap_setCell w1 ⟨B, 0, none⟩ _ (B + 1) (by show B + 1 ≠ B; omega)).trans ?_
        exact ((bP2.alloc _).kept hgrow (bP2.not_row (by decide) hrow2)).trans bP2.symm
      exact ⟨(hK2.trans hk2).from _, ⟨hB2.trans hb2, hbF.trans hF2⟩, ⟨_, hv2, by rw [List.length_append, dv_flat_snoc]; exact hr2⟩, (show Boxed _ _ _ _ from by rw [HLS1, show ((cn + 1 : Nat) : Int) = (cn : Int) + 1 by omega]; exact hbP.trans bP2), hbF.trans bF2, hB.trans (hB2.trans hb2)⟩
  case done =>
    rintro D ys W hD rfl ⟨⟨v, bV, hrow, -⟩, bP, -, hB⟩ hK
    have bA := (hB.block w.heap.size (by omega)).trans HA6.out
    have bN := (hB.block (w.heap.size + 1) (by omega)).trans HM6.out
    have hWs : B + 4 ≤ W.heap.size := by have := hB.size; omega
    have HKD8 := Lib.hid (show l.filter (staysB ad ⟨n0, n1, n2, n3, n4, n5, n6, n7⟩) = keptD l ad ⟨n0, n1, n2, n3, n4, n5, n6, n7⟩ from rfl)
    rw [HKD8.out] at hrow bP
    rw [HAh.out] at bP
    have hM8 := Nat.le_trans HKl.out H8.out.1
    have hAle := ahead_le (keptD l ad ⟨n0, n1, n2, n3, n4, n5, n6, n7⟩) ⟨n0, n1, n2, n3, n4, n5, n6, n7⟩
    generalize keptD l ad ⟨n0, n1, n2, n3, n4, n5, n6, n7⟩ = KD at *
    have hcV := bV.cell
    have k0 : W.cell? ⟨w.heap.size, 0, none⟩ = some (.int .i64 ad) := cell_of_row W w.heap.size 0 _ _ (0, 0) bA
    obtain ⟨lo, hi2, q1, q2, q3, q4, q5⟩ := owns_tight hrow (by omega)
    have hDl := q5 D _ hK rfl
    obtain ⟨a', cap', rfl, hcap', hn⟩ := q4.new dvL_len
    by_cases had : 251 < ad
    · have hd : decide (251 < ad) = true := decide_eq_true had
      have hres := Lib.hid (HNo.out (fun q => by omega))
      gi_wp2
      refine ⟨by simp, .inl ⟨_, _, rfl, run_takeDeferred hK, ?_⟩⟩
      rw [HV.out, ← hres.out]
      have X1 := (hn.wide (lo' := w.heap.size) (hi' := W.heap.size) (by omega) q3).putObj (.deferred none) hK rfl
      have X2 := HW6.out.trans ((hB.mono (by omega)).trans (belowK_b (w := w6) (n₀ := w.heap.size) (by omega) W D _ (.deferred none) (by omega) hK rfl rfl))
      first
        | exact ⟨_, results_tmp rfl _ _ _, a', cap', rfl, by simpa using X1, X2⟩
        | exact ⟨_, results_tmp rfl _ _ _, a', ⟨cap', rfl⟩, by simpa using X1, X2⟩
    have hd : decide (251 < ad) = false := decide_eq_false had
    by_cases h8k : 8 ≤ KD.length
    · have hd2 : decide ((8 : Int) ≤ (KD.length : Int)) = true := decide_eq_true (by omega)
      have hd3 : decide (8 ≤ KD.length) = true := decide_eq_true (by omega)
      have hres := Lib.hid (HNo.out (fun q => by omega))
      gi_wp2
      refine ⟨by simp, .inl ⟨_, _, rfl, run_takeDeferred hK, ?_⟩⟩
      rw [HV.out, ← hres.out]
      have X1 := (hn.wide (lo' := w.heap.size) (hi' := W.heap.size) (by omega) q3).putObj (.deferred none) hK rfl
      have X2 := HW6.out.trans ((hB.mono (by omega)).trans (belowK_b (w := w6) (n₀ := w.heap.size) (by omega) W D _ (.deferred none) (by omega) hK rfl rfl))
      first
        | exact ⟨_, results_tmp rfl _ _ _, a', cap', rfl, by simpa using X1, X2⟩
        | exact ⟨_, results_tmp rfl _ _ _, a', ⟨cap', rfl⟩, by simpa using X1, X2⟩
    have hd2 : decide ((8 : Int) ≤ (KD.length : Int)) = false := decide_eq_false (by omega)
    have hd3 : decide (8 ≤ KD.length) = false := decide_eq_false (by omega)
    have hres := Lib.hid ((HYes _).out ⟨by omega, by omega⟩ rfl)
    have hcP := bP.cell
    have f0 : W.cell? ⟨w.heap.size + 1, 0, none⟩ = some (.int .i64 n0) := cell_of_row W (w.heap.size + 1) 0 _ _ (0, 0) bN
    have f1 : W.cell? ⟨w.heap.size + 1, 1, none⟩ = some (.int .i64 n1) := cell_of_row W (w.heap.size + 1) 1 _ _ (0, 0) bN
    have f2 : W.cell? ⟨w.heap.size + 1, 2, none⟩ = some (.int .i64 n2) := cell_of_row W (w.heap.size + 1) 2 _ _ (0, 0) bN
    have f3 : W.cell? ⟨w.heap.size + 1, 3, none⟩ = some (.int .i64 n3) := cell_of_row W (w.heap.size + 1) 3 _ _ (0, 0) bN
    have f4 : W.cell? ⟨w.heap.size + 1, 4, none⟩ = some (.int .i64 n4) := cell_of_row W (w.heap.size + 1) 4 _ _ (0, 0) bN
    have f5 : W.cell? ⟨w.heap.size + 1, 5, none⟩ = some (.int .i64 n5) := cell_of_row W (w.heap.size + 1) 5 _ _ (0, 0) bN
    have f6 : W.cell? ⟨w.heap.size + 1, 6, none⟩ = some (.int .i64 n6) := cell_of_row W (w.heap.size + 1) 6 _ _ (0, 0) bN
    have f7 : W.cell? ⟨w.heap.size + 1, 7, none⟩ = some (.bool n7) := cell_of_row W (w.heap.size + 1) 7 _ _ (0, 0) bN
    gi_wp2
    refine ⟨trivial, ?_⟩
    obtain ⟨WA, hWA⟩ : ∃ WA, W.alloc (.cells #[.int .i64 n0, .int .i64 n1, .int .i64 n2, .int .i64 n3, .int .i64 n4, .int .i64 n5, .int .i64 n6, .bool n7, .int .i64 ad, .int .i64 0] 78) = WA := ⟨_, rfl⟩
    have hsA : WA.heap.size = W.heap.size + 1 := by rw [← hWA]; simp
    have hbA : Below W.heap.size W WA := by rw [← hWA]; exact (Below.refl _ _).alloc (Nat.le_refl _) _
    have hAn : WA.heap[W.heap.size]? = some (.cells (dvL ⟨⟨n0, n1, n2, n3, n4, n5, n6, n7⟩, ad, 0⟩).toArray 78 (0, 0)) := by rw [← hWA]; exact World.alloc_heap_new W _
    have hDs : D < W.heap.size := (Array.getElem?_eq_some_iff.1 hK).1
    have hin := insert_d lo hi2 (.slice a' KD.length cap') KD (aheadD KD ⟨n0, n1, n2, n3, n4, n5, n6, n7⟩) W.heap.size ⟨⟨n0, n1, n2, n3, n4, n5, n6, n7⟩, ad, 0⟩ WA (q4.kept hbA) hAn (.inr q3) hAle (by omega) q2 (by omega)
    obtain ⟨LL, hLL⟩ : ∃ x, KD.take (aheadD KD ⟨n0, n1, n2, n3, n4, n5, n6, n7⟩) ++ ⟨⟨n0, n1, n2, n3, n4, n5, n6, n7⟩, ad, 0⟩ :: KD.drop (aheadD KD ⟨n0, n1, n2, n3, n4, n5, n6, n7⟩) = x := ⟨_, rfl⟩
    rw [hLL] at hin
    have HLL := Lib.hid hLL
    clear hLL
    rw [hWA]
    refine (callsIn_wide.2 hin).mono ?_
    rintro e w7 ⟨a7, c7, l2, h2, rfl, hc7, hr7, hl7, hn7, ho7⟩
    have hs7 := ho7.size
    have hK7 : w7.heap[D]? = some (.deferred (some [])) := (ho7.block D (by omega) hDl).trans ((hbA.block D hDs).trans hK)
    have X0 := ho7.below (hB.trans (hbA.mono (by omega))) q1 (by omega)
    clear hin hWA
    gi_wp2
    refine ⟨by simp, .inl ⟨_, _, rfl, run_takeDeferred hK7, ?_⟩⟩
    rw [HV.out, ← hres.out, HLL.out]
    have X1 := (hn7.wide (lo' := w.heap.size) (hi' := w7.heap.size) (by omega) (by omega)).putObj (.deferred none) hK7 rfl
    have X2 := HW6.out.trans ((X0.mono (by omega)).trans (belowK_b (w := w6) (n₀ := w.heap.size) (by omega) w7 D _ (.deferred none) (by omega) hK7 rfl rfl))
    exact ⟨_, results_tmp rfl _ _ _, a7, c7, rfl, by simpa using X1, X2⟩
  case stop =>
    rintro D c pre W _ _ hh _
    exact hh.elim
end Go.Proofs.Ytpolpkheaibonaa
/- Who is there once one is heard: the model's DeviceHear. The answer is in memory of its own. -/
namespace Go.Proofs.Ytpolpkheaibonaa
open Go.RowKit
set_option linter.unusedVariables false

theorem hearV_len (l : List Dv) (ad : Int) (n : Nm) : (hearV l ad n).length ≤ 401 := by
  unfold hearV
  split
  · simp
  · split
    · have := hearD_len l ad n
      omega
    · omega
set_option maxRecDepth 100000 in
set_option maxHeartbeats 8000000 in
theorem specDeviceHear_any (a : Option Addr) (cap : Nat) (l : List Dv) (ad : Int) (n : Nm) (w : World) (h : RsIn dvL 10 w a l) (hlen : l.length ≤ maxLen) :
    Calls Try.prog 15 #[.slice a l.length cap, .int .i64 ad, nmV n] w (DvOut w (hearV l ad n)) := by
  have HDR := fun W (hW : RsIn dvL 10 W a l) => Lib.hid (specDevicesRight_any a cap l W hW hlen)
  have HNO := fun W => Lib.hid (specNameOk_any n W)
  have HLH := fun W (hW : RsIn dvL 10 W a l) h1 h2 h3 => Lib.hid (l09Hear_any a cap l ad n W hW h1 h2 h3)
  obtain ⟨i0, hi, hz0, hz1, hz2⟩ := info_parts DeviceTo.info
  have HI0 := Lib.hid hi
  have HI := Lib.hid h
  have HN0 := Lib.hid (show 400 < l.length → hearV l ad n = [] from fun h => by unfold hearV; rw [if_pos h])
  have HN1 := Lib.hid (show ¬ 400 < l.length → (dvsB l && (okB n && inB 0 255 ad)) = false → hearV l ad n = l from fun h h2 => by unfold hearV; rw [if_neg h, h2]; rfl)
  have HN2 := Lib.hid (show ¬ 400 < l.length → (dvsB l && (okB n && inB 0 255 ad)) = true → hearV l ad n = hearD l ad n from fun h h2 => by unfold hearV; rw [if_neg h, if_pos h2])
  unfold DvOut at *
  obtain ⟨L, hL⟩ : ∃ L, hearV l ad n = L := ⟨_, rfl⟩
  obtain ⟨HD, hHD⟩ : ∃ x, hearD l ad n = x := ⟨_, rfl⟩
  rw [hL] at HN0 HN1 HN2 ⊢
  rw [hHD] at HN2 HLH
  clear hL hHD h hi
  obtain ⟨V, hV⟩ : ∃ V, dvsB l = V := ⟨_, rfl⟩
  obtain ⟨OK, hOK⟩ : ∃ V, okB n = V := ⟨_, rfl⟩
  rw [hV] at HDR HN1 HN2 HLH
  rw [hOK] at HNO HN1 HN2 HLH
  clear hV hOK
  obtain ⟨N, hN⟩ : ∃ N, l.length = N := ⟨_, rfl⟩
  have HN := Lib.hid hN
  rw [hN] at hlen HN0 HN1 HN2 HDR HLH ⊢
  clear hN
  obtain ⟨n0, n1, n2, n3, n4, n5, n6, n7⟩ := n
  unfold nmV at *
  dsimp only at *
  by_cases h400 : 400 < N
  · have hd4 : decide ((400 : Int) < (N : Int)) = true := decide_eq_true (by omega)
    have HV := Lib.hid (HN0.out h400)
    clear HN0 HN1 HN2 h400 HDR HNO HLH
    go_enter Try.func15, Try.ntmps15
    go_wp2_with (first
      | (refine wpList_box_h rfl 33 (.tmp 2) rfl #[.int .i64 n0, .int .i64 n1, .int .i64 n2, .int .i64 n3, .int .i64 n4, .int .i64 n5, .int .i64 n6, .bool n7] rfl ?_; intro w1 R1 e1 g1 b1; have HL1 := Lib.hid (show Lg w w1 [(R1, #[.int .i64 n0, .int .i64 n1, .int .i64 n2, .int .i64 n3, .int .i64 n4, .int .i64 n5, .int .i64 n6, .bool n7], 33)] [] from (Lg.first w).box e1 g1 b1); clear g1 b1 e1)
      | (refine wpList_lit0 dvL 10 rfl 24 rfl 78 i0 Try.underlying24 HI0.out ?_; intro w2 G e2 hown b2; have HB2 := Lib.hid b2; clear hown b2 e2))
    go_ret
    rw [HV.out]
    exact ⟨_, _, rfl, RsNew.nil _, HL1.out.below.trans (HB2.out.mono HL1.out.below.size)⟩
  have hd4 : decide ((400 : Int) < (N : Int)) = false := decide_eq_false (by omega)
  have HI1 := Lib.hid (HN1.out h400)
  have HI2 := Lib.hid (HN2.out h400)
  clear HN0 HN1 HN2
  go_enter Try.func15, Try.ntmps15
  go_wp2_with (first
    | (refine wpList_box_h rfl 33 (.tmp 2) rfl #[.int .i64 n0, .int .i64 n1, .int .i64 n2, .int .i64 n3, .int .i64 n4, .int .i64 n5, .int .i64 n6, .bool n7] rfl ?_; intro w1 R1 e1 g1 b1; have HL1 := Lib.hid (show Lg w w1 [(R1, #[.int .i64 n0, .int .i64 n1, .int .i64 n2, .int .i64 n3, .int .i64 n4, .int .i64 n5, .int .i64 n6, .bool n7], 33)] [] from (Lg.first w).box e1 g1 b1); clear g1 b1 e1))
  refine ((HDR _ (HI.out.kept HL1.out.below)).out).mono ?_
  rintro e w2 ⟨rfl, h⟩
  have HL2 := Lib.hid (show Lg w w2 [(R1, #[.int .i64 n0, .int .i64 n1, .int .i64 n2, .int .i64 n3, .int .i64 n4, .int .i64 n5, .int .i64 n6, .bool n7], 33)] [] from HL1.out.kept h)
  clear h
  rcases V with _ | _
  · skip
    have ht := Lib.hid (HI1.out (by rfl))
    clear HI1 HI2 HDR HNO HLH
    go_wp2_with (first
      | (refine wpList_lit0 dvL 10 rfl 24 rfl 78 i0 Try.underlying24 HI0.out ?_; intro wA G e2 hown b2; have HOA := Lib.hid hown; have gG0 : w.heap.size ≤ G := (by rw [← e2]; exact HL2.out.below.size); have HBA := Lib.hid (HL2.out.below.trans (b2.mono HL2.out.below.size)); have HSz := Lib.hid (show G ≤ wA.heap.size from (by rw [← e2]; exact b2.size)); clear hown b2 e2)
      | (at_builtin; refine wpList_append_rs dvL_len dvL_one rfl (.tmp 24) (.tmp 25) 24 rfl 78 i0 _ 80 Try.underlying24 HI0.out hz0 hz1 hz2 (by kernel_rfl) (by decide) G wA.heap.size (.slice (some ⟨G, 0, none⟩) 0 0) ([] : List Dv) rfl HOA.out _ _ l (slice_len rfl HN.out) (HI.out.kept HBA.out) (by have := HN.out; unfold maxLen; simp <;> omega) (by have := HN.out; simp <;> omega) HSz.out ?_; intro vB wB hown2 ho2; have HOB := Lib.hid hown2; have HBB := Lib.hid (ho2.below HBA.out gG0 HBA.out.size); clear hown2 ho2))
    go_ret
    obtain ⟨a', c', hv', _, hn⟩ := HOB.out.new dvL_len
    rw [ht.out]
    rw [List.nil_append] at hv' hn
    exact ⟨a', c', by rw [hv']; rfl, hn.wide gG0 (Nat.le_refl _), HBB.out⟩
  go_wp2_with (first
    | (refine wpList_load_at rfl 33 (.tmp 5) rfl (R1) 0 rfl 33 #[.int .i64 n0, .int .i64 n1, .int .i64 n2, .int .i64 n3, .int .i64 n4, .int .i64 n5, .int .i64 n6, .bool n7] (0, 0) (HL2.out.get (.head _)) [.int .i64 n0, .int .i64 n1, .int .i64 n2, .int .i64 n3, .int .i64 n4, .int .i64 n5, .int .i64 n6, .bool n7] rfl _ Try.underlying33 rfl (by kernel_rfl) ?_))
  refine ((HNO _).out).mono ?_
  rintro e w3 ⟨rfl, h⟩
  have HL3 := Lib.hid (show Lg w w3 [(R1, #[.int .i64 n0, .int .i64 n1, .int .i64 n2, .int .i64 n3, .int .i64 n4, .int .i64 n5, .int .i64 n6, .bool n7], 33)] [] from HL2.out.kept h)
  clear h
  rcases OK with _ | _
  · skip
    have ht := Lib.hid (HI1.out (by rfl))
    clear HI1 HI2 HDR HNO HLH
    go_wp2_with (first
      | (refine wpList_lit0 dvL 10 rfl 24 rfl 78 i0 Try.underlying24 HI0.out ?_; intro wA G e2 hown b2; have HOA := Lib.hid hown; have gG0 : w.heap.size ≤ G := (by rw [← e2]; exact HL3.out.below.size); have HBA := Lib.hid (HL3.out.below.trans (b2.mono HL3.out.below.size)); have HSz := Lib.hid (show G ≤ wA.heap.size from (by rw [← e2]; exact b2.size)); clear hown b2 e2)
      | (at_builtin; refine wpList_append_rs dvL_len dvL_one rfl (.tmp 24) (.tmp 25) 24 rfl 78 i0 _ 80 Try.underlying24 HI0.out hz0 hz1 hz2 (by kernel_rfl) (by decide) G wA.heap.size (.slice (some ⟨G, 0, none⟩) 0 0) ([] : List Dv) rfl HOA.out _ _ l (slice_len rfl HN.out) (HI.out.kept HBA.out) (by have := HN.out; unfold maxLen; simp <;> omega) (by have := HN.out; simp <;> omega) HSz.out ?_; intro vB wB hown2 ho2; have HOB := Lib.hid hown2; have HBB := Lib.hid (ho2.below HBA.out gG0 HBA.out.size); clear hown2 ho2))
    go_ret
    obtain ⟨a', c', hv', _, hn⟩ := HOB.out.new dvL_len
    rw [ht.out]
    rw [List.nil_append] at hv' hn
    exact ⟨a', c', by rw [hv']; rfl, hn.wide gG0 (Nat.le_refl _), HBB.out⟩
  go_wp2_with fail
  refine (l02Is_any ad 0 255 _).mono ?_
  rcases hT : inB 0 255 ad with _ | _
  · rintro e w' ⟨rfl, rfl⟩
    have ht := Lib.hid (HI1.out (by rw [hT]; rfl))
    clear HI1 HI2 HDR HNO HLH
    go_wp2_with (first
      | (refine wpList_lit0 dvL 10 rfl 24 rfl 78 i0 Try.underlying24 HI0.out ?_; intro wA G e2 hown b2; have HOA := Lib.hid hown; have gG0 : w.heap.size ≤ G := (by rw [← e2]; exact HL3.out.below.size); have HBA := Lib.hid (HL3.out.below.trans (b2.mono HL3.out.below.size)); have HSz := Lib.hid (show G ≤ wA.heap.size from (by rw [← e2]; exact b2.size)); clear hown b2 e2)
      | (at_builtin; refine wpList_append_rs dvL_len dvL_one rfl (.tmp 24) (.tmp 25) 24 rfl 78 i0 _ 80 Try.underlying24 HI0.out hz0 hz1 hz2 (by kernel_rfl) (by decide) G wA.heap.size (.slice (some ⟨G, 0, none⟩) 0 0) ([] : List Dv) rfl HOA.out _ _ l (slice_len rfl HN.out) (HI.out.kept HBA.out) (by have := HN.out; unfold maxLen; simp <;> omega) (by have := HN.out; simp <;> omega) HSz.out ?_; intro vB wB hown2 ho2; have HOB := Lib.hid hown2; have HBB := Lib.hid (ho2.below HBA.out gG0 HBA.out.size); clear hown2 ho2))
    go_ret
    obtain ⟨a', c', hv', _, hn⟩ := HOB.out.new dvL_len
    rw [ht.out]
    rw [List.nil_append] at hv' hn
    exact ⟨a', c', by rw [hv']; rfl, hn.wide gG0 (Nat.le_refl _), HBB.out⟩
  rintro e w' ⟨rfl, rfl⟩
  have ht := Lib.hid (HI2.out (by rw [hT]; rfl))
  have had := (inB_of hT).1
  clear HI1 HI2 HDR HNO hT
  go_wp2_with (first
    | (refine wpList_load_at rfl 33 (.tmp 5) rfl (R1) 0 rfl 33 #[.int .i64 n0, .int .i64 n1, .int .i64 n2, .int .i64 n3, .int .i64 n4, .int .i64 n5, .int .i64 n6, .bool n7] (0, 0) (HL3.out.get (.head _)) [.int .i64 n0, .int .i64 n1, .int .i64 n2, .int .i64 n3, .int .i64 n4, .int .i64 n5, .int .i64 n6, .bool n7] rfl _ Try.underlying33 rfl (by kernel_rfl) ?_))
  refine (HLH _ (HI.out.kept HL3.out.below) (by trivial) (by trivial) had).out.mono ?_
  rintro e w9 ⟨a9, c9, rfl, hn9, h9⟩
  go_wp2_with fail
  go_ret
  rw [ht.out]
  exact ⟨a9, c9, rfl, hn9.wide HL3.out.below.size (Nat.le_refl _), HL3.out.below.trans (h9.mono HL3.out.below.size)⟩
end Go.Proofs.Ytpolpkheaibonaa
