/- What lives in the midst of a draw: the source, variables said whole, rows of numbers of the draw's own. -/
import Derived.Test.YtdhmcepnmbchkaaDrawMore
import Derived.Test.YtdhmcepnmbchkaaOwnLit
namespace Go.Proofs.Ytdhmcepnmbchkaa
open Go.RowKit
set_option linter.unusedVariables false

/-- A field of a struct that is a value, a struct itself. -/
theorem wpList_field_h {P : Program} {ops : Array Oper} {rest : List Oper} {o : Oper} {a : Act} {w : World} {Q : Exit → Act → World → Prop} (hgd : Region.wanted o (yielded ops a.tmps) = true) (T : TypeId) (x : Operand) (i : Nat) (ho : o.op = .field T x i)
    (cs : Array Value) (hx : a.eval x = .agg cs) (fields) (hu : P.underlying T = some (.struct fields)) (f) (hf : fields[i]? = some f) (d : TypeDesc) (hd : P.underlying f.type = some d) (hr : d.isRow = true) (n : Nat) (hn : (P.info? f.type).map (·.size) = some n)
    (out : Array Value) (hout : cs.extract f.offset (f.offset + n) = out) (h : wpList P ops Q rest (a.put o.dst (.agg out)) w) : wpList P ops Q (o :: rest) a w :=
  BigFrame.wpList_want hgd fun K hK => by
    have hagg : (isAgg f.type).run P w = .ok true w := by
      unfold isAgg
      rw [Sem.run_bind, run_underlying hd w]
      cases d <;> simp_all
    have hk := hK _ _ h
    cases hq : P.info? f.type with
    | none => simp [hq] at hn
    | some j =>
      have hs : j.size = n := by simpa [hq] using hn
      unfold Oper.wp execOp
      simp [ho, hx, Instr.field, run_underlying hu, hf, asAgg, part, hagg, sizeOf, typeInfo, hq, hs, hout, Result.andThen_ok]
      exact hk
/-- One number more, at a step of a region that draws its order. -/
theorem step_append_num {P : Program} {ops : Array Oper} {o : Oper} {a : Act} {w : World} {K : Act → World → Prop} {Q : Exit → Act → World → Prop} {E : Prop} (hgd : o.guard = none) (s x : Operand) (t : TypeId)
    (ho : o.op = .call { callee := .builtin .append, args := #[s, x], argTypes := #[t, t] })
    (base : Nat) (e : TypeId) (i : TypeInfo) (z : Value) (bytes : Nat) (ht : P.underlying t = some (.slice e)) (hi : P.info? e = some i) (hz : i.zero = some z) (hsize : i.size = 1) (hby : i.bytes = bytes) (hzs : z.cells.size = 1)
    (v : Value) (n : Nat) (xs : List Value) (hs : a.eval s = v) (hown : w.ownsRow base e 1 v n xs) (g c : Nat) (y : Int) (hx : a.eval x = .slice (some ⟨g, 0, none⟩) 1 c) (hin : NumsIn w (some ⟨g, 0, none⟩) [y])
    (h63 : n + 1 ≤ maxLen) (hbytes : (n + 1) * bytes ≤ 140737488355328) (hbase : base ≤ w.heap.size)
    (h : ∀ v' w', w'.ownsRow base e 1 v' (n + 1) (xs ++ ncells [y]) → w.grownBy w' v.ownBlock → K (a.put o.dst v') w') :
    if Region.wanted o (yielded ops a.tmps) = true then Oper.wp P o a w K Q else E := by
  have hw : Region.wanted o (yielded ops a.tmps) = true := by simp [Region.wanted, hgd]
  rw [if_pos hw]
  obtain ⟨b, o2, h', _, hc⟩ := hin.at (by simp)
  obtain ⟨rfl, rfl⟩ : g = b ∧ 0 = o2 := by simpa using h'
  exact wp_append_own w s x t ho base e i z 1 bytes ht hi hz hsize hby hzs (by decide) v n xs hs hown ⟨g, 0, none⟩ 1 c (ncells [y]) hx (by simp [ncells]) (nums_cells hc) (ncells_one _) h63 hbytes hbase fun v' w' h1 h2 _ => h v' w' h1 h2
/-- A draw that began in w, at a call that began in u: the source is block S; the variables rs hold what they hold; the rows os (from a base on) are said whole. -/
structure Ds (w : World) (S : Nat) (a : Option Addr) (len cap : Nat) (zs : List Int) (u W : World) (rs : List (Nat × Array Value × TypeId)) (os : List (Nat × Value × List Int)) : Prop where
  dr : Dr w S a len cap zs W
  grown : u.grownBy W (some S)
  old : S < u.heap.size
  row : ∀ r ∈ rs, u.heap.size ≤ r.1 ∧ W.heap[r.1]? = some (.cells r.2.1 r.2.2 (0, 0))
  own : ∀ o ∈ os, (u.heap.size ≤ o.1 ∧ o.1 ≤ W.heap.size) ∧ W.ownsRow o.1 2 1 o.2.1 o.2.2.length (ncells o.2.2)
section
variable {w u W W' : World} {S : Nat} {a : Option Addr} {len cap : Nat} {zs : List Int} {rs rs' : List (Nat × Array Value × TypeId)} {os os' : List (Nat × Value × List Int)} {B : Nat} {v v' : Value} {l l' : List Int}
theorem Ds.first (h : Dr w S a len cap zs u) : Ds w S a len cap zs u u [] [] := ⟨h, World.grownBy.refl _ _, h.src.lt, fun r hr => (by cases hr), fun o ho => (by cases ho)⟩
/-- Behind a drawn number: the source has turned, nothing else. -/
theorem Ds.drawn (h : Ds w S a len cap zs u W rs os) (hd : Dr w S a len cap zs W') (hg : W.grownBy W' (some S)) : Ds w S a len cap zs u W' rs os :=
  ⟨hd, grownBy_trans h.grown hg, h.old, fun r hr => ⟨(h.row r hr).1, (hg.block r.1 (Array.getElem?_eq_some_iff.1 (h.row r hr).2).1 (fun e => by have := Option.some.inj e; have := (h.row r hr).1; have := h.old; omega)).trans (h.row r hr).2⟩,
    fun o ho => ⟨⟨(h.own o ho).1.1, Nat.le_trans (h.own o ho).1.2 hg.size⟩, (h.own o ho).2.kept hg (by
      rcases hv : o.2.1.ownBlock with _ | g
      · exact .inl rfl
      · refine .inr fun e => ?_
        have h1 := (World.ownsRow.lt (h.own o ho).2 g hv).1
        have h2 : g = S := Option.some.inj e
        have h3 := (h.own o ho).1.1
        have h4 := h.old
        omega)⟩⟩
/-- Behind a call that only makes blocks. -/
theorem Ds.made (h : Ds w S a len cap zs u W rs os) (hb : Below W.heap.size W W') : Ds w S a len cap zs u W' rs os :=
  h.drawn (h.dr.made hb) ⟨hb.os, hb.tape, hb.output, hb.size, fun k hk _ => hb.block k hk⟩
theorem Ds.box (h : Ds w S a len cap zs u W rs os) {R : Nat} {cs : Array Value} {T : TypeId} (hR : W.heap.size = R) (hg : W'.heap[R]? = some (.cells cs T (0, 0))) (hb : Below W.heap.size W W') : Ds w S a len cap zs u W' ((R, cs, T) :: rs) os :=
  have h' := h.made hb
  ⟨h'.dr, h'.grown, h'.old, fun r hr => by
    rcases List.mem_cons.1 hr with rfl | hr
    · exact ⟨hR ▸ h.grown.size, hg⟩
    · exact h'.row r hr, h'.own⟩
theorem Ds.addRow (h : Ds w S a len cap zs u W rs os) {g : Nat} {cs : Array Value} {T : TypeId} (hg : W.heap[g]? = some (.cells cs T (0, 0))) (hle : u.heap.size ≤ g) : Ds w S a len cap zs u W ((g, cs, T) :: rs) os :=
  ⟨h.dr, h.grown, h.old, fun r hr => by
    rcases List.mem_cons.1 hr with rfl | hr
    · exact ⟨hle, hg⟩
    · exact h.row r hr, h.own⟩
theorem Ds.less (h : Ds w S a len cap zs u W rs os) (h1 : ∀ r ∈ rs', r ∈ rs) (h2 : ∀ o ∈ os', o ∈ os) : Ds w S a len cap zs u W rs' os' :=
  ⟨h.dr, h.grown, h.old, fun r hr => h.row r (h1 r hr), fun o ho => h.own o (h2 o ho)⟩
/-- A row of numbers more, that a call made. -/
theorem Ds.addOwn (h : Ds w S a len cap zs u W rs os) {base : Nat} {v : Value} {l : List Int} (ho : W.ownsRow base 2 1 v l.length (ncells l)) (hb : u.heap.size ≤ base) (hb2 : base ≤ W.heap.size) : Ds w S a len cap zs u W rs ((base, v, l) :: os) :=
  ⟨h.dr, h.grown, h.old, h.row, fun o hm => by
    rcases List.mem_cons.1 hm with rfl | hm
    · exact ⟨⟨hb, hb2⟩, ho⟩
    · exact h.own o hm⟩
theorem Ds.get (h : Ds w S a len cap zs u W rs os) {g : Nat} {cs : Array Value} {T : TypeId} (hm : (g, cs, T) ∈ rs) : W.heap[g]? = some (.cells cs T (0, 0)) := (h.row _ hm).2
theorem Ds.lt (h : Ds w S a len cap zs u W rs os) {g : Nat} {cs : Array Value} {T : TypeId} (hm : (g, cs, T) ∈ rs) : g < W.heap.size := (Array.getElem?_eq_some_iff.1 (h.row _ hm).2).1
theorem Ds.numsOf (h : Ds w S a len cap zs u W rs os) {base c : Nat} {b : Option Addr} {l : List Int} (hm : (base, .slice b l.length c, l) ∈ os) : NumsIn W b l := by
  obtain ⟨b', c', he, _, hn⟩ := NumsNew.of_owns (h.own _ hm).2
  cases he
  exact hn.nums
theorem Ds.numsNew (h : Ds w S a len cap zs u W rs os) {base c : Nat} {b : Option Addr} {l : List Int} (hm : (base, .slice b l.length c, l) ∈ os) : NumsNew u.heap.size W.heap.size W b l := by
  obtain ⟨b', c', he, _, hn⟩ := NumsNew.of_owns (h.own _ hm).2
  cases he
  exact hn.wide (h.own _ hm).1.1 (Nat.le_refl _)
/-- One of the variables is stored into: the rows' blocks are of another type. -/
theorem Ds.put (h : Ds w S a len cap zs u W rs os) (i : Nat) {g : Nat} {old new : Array Value} {T : TypeId} (hm : rs[i]? = some (g, old, T)) (hg : W'.heap[g]? = some (.cells new T (0, 0))) (ho : Out g (g + 1) W W')
    (hT : T ≠ 2) (h1 : ∀ r ∈ rs.eraseIdx i, r.1 ≠ g) (hrs : rs' = rs.set i (g, new, T)) : Ds w S a len cap zs u W' rs' os := by
  have hin := h.row _ (List.mem_of_getElem? hm)
  have hlo : u.heap.size ≤ g := hin.1
  have hold := h.old
  have hwS := h.dr.lo
  refine ⟨⟨h.dr.src.of_heap (ho.block S h.dr.src.lt (.inl (by omega))), ?_, ho.below h.dr.below (by omega) h.dr.below.size, h.dr.lo, h.dr.args, h.dr.few⟩,
    ⟨ho.os.trans h.grown.os, ho.tape.trans h.grown.tape, ho.output.trans h.grown.output, Nat.le_trans h.grown.size ho.size, fun k hk hne => (ho.block k (Nat.lt_of_lt_of_le hk h.grown.size) (.inl (by omega))).trans (h.grown.block k hk hne)⟩, h.old, fun r hr => ?_, fun o hm' => ?_⟩
  · exact h.dr.row.kept (B := w.heap.size) ⟨ho.os, ho.tape, ho.output, ho.size, fun k hk => ho.block k (Nat.lt_of_lt_of_le hk h.dr.below.size) (.inl (by omega))⟩ h.dr.args
  · subst hrs
    obtain ⟨j, hj⟩ := List.getElem?_of_mem hr
    rw [List.getElem?_set] at hj
    split at hj
    · split at hj
      · cases hj
        exact ⟨hin.1, hg⟩
      · cases hj
    · rename_i hij
      have hr' : r ∈ rs := List.mem_of_getElem? hj
      have hne : r.1 ≠ g := h1 r (by
        rw [List.mem_eraseIdx_iff_getElem?]
        exact ⟨j, fun e => hij e.symm, hj⟩)
      refine ⟨(h.row r hr').1, ?_⟩
      exact (ho.block _ (Array.getElem?_eq_some_iff.1 (h.row r hr').2).1 (by omega)).trans (h.row r hr').2
  · refine ⟨⟨(h.own o hm').1.1, Nat.le_trans (h.own o hm').1.2 ho.size⟩, ?_⟩
    refine (h.own o hm').2.kept (row := some g) ⟨ho.os, ho.tape, ho.output, ho.size, fun k hk hne => ho.block k hk (by
      rcases Nat.lt_or_ge k g with h' | h'
      · exact .inl h'
      · refine .inr ?_
        have : k ≠ g := fun e => hne (by rw [e])
        omega)⟩ (.inr (owns_ne (h.own o hm').2 hin.2 hT))
/-- Behind an append to a row of the draw's own. -/
theorem Ds.appended (h : Ds w S a len cap zs u W rs [(B, v, l)]) (hg : W.grownBy W' v.ownBlock) (ho : W'.ownsRow B 2 1 v' l'.length (ncells l')) (hT : ∀ r ∈ rs, r.2.2 ≠ 2) : Ds w S a len cap zs u W' rs [(B, v', l')] := by
  obtain ⟨⟨hB, hB2⟩, hown⟩ := h.own _ (.head _)
  have hB' : u.heap.size ≤ B := hB
  refine ⟨h.dr.appended hown hg (Nat.lt_of_lt_of_le h.old hB'), ⟨hg.os.trans h.grown.os, hg.tape.trans h.grown.tape, hg.output.trans h.grown.output, Nat.le_trans h.grown.size hg.size, fun k hk hne => (hg.block k (Nat.lt_of_lt_of_le hk h.grown.size) (fun e => by
    have := (World.ownsRow.lt hown k e.symm).1
    omega)).trans (h.grown.block k hk hne)⟩, h.old, fun r hr => ⟨(h.row r hr).1, (hg.block r.1 (Array.getElem?_eq_some_iff.1 (h.row r hr).2).1 (fun e => owns_ne hown (h.row r hr).2 (hT r hr) e.symm)).trans (h.row r hr).2⟩, fun o hm => ?_⟩
  rcases List.mem_cons.1 hm with rfl | hm
  · exact ⟨⟨hB, Nat.le_trans hB2 hg.size⟩, ho⟩
  · cases hm
end
end Go.Proofs.Ytdhmcepnmbchkaa
