/- What the laws draw for a claim that is new, and for one that hears another. Nothing that was there is written. -/
import Derived.Test.YtdhmcepnmbchkaaDrawClaim
import Derived.Test.YtdhmcepnmbchkaaDrawName
import Derived.Test.YtdhmcepnmbchkaaAnyOps
import Derived.Test.YtdhmcepnmbchkaaKnown
import Derived.Test.YtdhmcepnmbchkaaRs
namespace Go.Proofs.Ytdhmcepnmbchkaa
open Go.RowKit
set_option linter.unusedVariables false

section
variable {P : Program} {o : Oper} {a : Act} {w : World} {K : Act → World → Prop} {Q : Exit → Act → World → Prop}
/-- A store over a whole block that is said whole. -/
theorem ob_put_all (ty : TypeId) (x y : Operand) (ho : o.op = .store ty x y) (g : Nat) (hx : a.eval x = .pointer (some ⟨g, 0, none⟩)) (v : Value) (hy : a.eval y = v) (cells : Array Value) (hcs : v.cells = cells)
    (t : TypeId) (old new : Array Value) (hg : w.heap[g]? = some (.cells old t (0, 0))) (hi : (P.info? ty).map (·.size) = some cells.size) (hk0 : Nat.ble (0 + cells.size) old.size = true) (h1 : cells.toList.all (·.oneCell') = true) (hnew : setAll old 0 cells.toList = new)
    (h : ∀ w', w'.heap[g]? = some (.cells new t (0, 0)) → Out g (g + 1) w w' → K (a.put o.dst undef) w') : o.wp P a w K Q := by
  have hk : 0 + cells.size ≤ old.size := Nat.le_of_ble_eq_true hk0
  have ht : w.there g 0 cells.size := fun j hj => by
    refine ⟨?_, frozen_of_row w g (0 + j) old t hg⟩
    rw [cell_of_row w g (0 + j) old t (0, 0) hg, Array.getElem?_eq_getElem (by omega)]
    rfl
  have hrun := run_storeCells_cells (P := P) g 0 cells.toList 0 w (fun j hj => by simpa using (ht j (by simpa using hj)).1) (fun j hj => by simpa using (ht j (by simpa using hj)).2)
    (fun v hv => List.all_eq_true.1 h1 v hv)
  have hrun2 : (storeVar ty ⟨g, 0, none⟩ v).run P w = .ok () (w.setCells g 0 cells.toList) := by
    cases hq : P.info? ty with
    | none => simp [hq] at hi
    | some i =>
      have hs : cells.size = i.size := by simp [hq] at hi; omega
      simp only [Nat.add_zero] at hrun
      simp [storeVar, sizeOf, typeInfo, hq, hcs, hs, hrun]
  refine ob_skip (w' := w.setCells g 0 cells.toList) ?_ (h _ (hnew ▸ heap_setCells g t cells.toList w 0 old hg) (out_setCells g cells.toList w 0))
  unfold execOp
  simp only [ho, hx, hy, Instr.storeAt, Instr.sureAddr, Sem.run_bind, Sem.run_pure, Result.andThen_ok, hrun2]
theorem ob_load_row (ty : TypeId) (x : Operand) (ho : o.op = .load ty x) (g : Nat) (hx : a.eval x = .pointer (some ⟨g, 0, none⟩)) (t : TypeId) (cs : List Value) (hg : w.heap[g]? = some (.cells cs.toArray t (0, 0)))
    (d : TypeDesc) (hu : P.underlying ty = some d) (hd : d.isRow = true) (hi : (P.info? ty).map (·.size) = some cs.length) (h : K (a.put o.dst (.agg cs.toArray)) w) : o.wp P a w K Q :=
  wp_load_mid ty x ho g 0 hx cs d (fun j v hv => by
    rw [cell_of_row w g (0 + j) _ t (0, 0) hg]
    simpa using hv) hu hd hi h
end
/-- What a region leaves that writes block S, and, below it, whole rows of the answer. -/
def RR (S Ra Rb : Nat) (Oa Ob : Obj) (W W' : World) : Prop := W.heap.size ≤ W'.heap.size ∧ (∀ k, S < k → k < W.heap.size → W'.heap[k]? = W.heap[k]?) ∧ (W.heap[Ra]? = some Oa → W'.heap[Ra]? = some Oa) ∧ (W.heap[Rb]? = some Ob → W'.heap[Rb]? = some Ob)
/-- A row of n numbers behind block S. -/
def LitG (S n : Nat) (w : World) (v : Value) : Prop := ∃ G row, v = .slice (some ⟨G, 0, none⟩) n n ∧ S < G ∧ w.heap[G]? = some (.cells row 2 (0, 0)) ∧ ∀ k, k < n → ∃ x : Int, row[k]? = some (.int .i64 x)
def PickG (S : Nat) (w : World) (v : Value) : Prop := ∃ G k row x, v = .pointer (some ⟨G, k, none⟩) ∧ S < G ∧ w.heap[G]? = some (.cells row 2 (0, 0)) ∧ row[k]? = some (.int .i64 x)
theorem heap_is {w : World} {k : Nat} {o : Obj} (h : w.heap[k]? = some o) : k < w.heap.size := (Array.getElem?_eq_some_iff.1 h).1
section
variable {S Ra Rb n : Nat} {Oa Ob : Obj} {W W' : World} {v : Value}
theorem RR.refl : RR S Ra Rb Oa Ob W W := ⟨Nat.le_refl _, fun _ _ _ => rfl, id, id⟩
theorem RR.grown (hg : W.grownBy W' (some S)) (ha : Ra < S) (hb : Rb < S) : RR S Ra Rb Oa Ob W W' :=
  ⟨hg.size, fun k h1 h2 => hg.block k h2 (by simp; omega), fun h => (hg.block Ra (heap_is h) (by simp; omega)).trans h, fun h => (hg.block Rb (heap_is h) (by simp; omega)).trans h⟩
theorem LitG.kept (hR : RR S Ra Rb Oa Ob W W') (h : LitG S n W v) : LitG S n W' v := by
  obtain ⟨G, row, e, h1, h2, h3⟩ := h
  exact ⟨G, row, e, h1, (hR.2.1 G h1 (heap_is h2)).trans h2, h3⟩
theorem PickG.kept (hR : RR S Ra Rb Oa Ob W W') (h : PickG S W v) : PickG S W' v := by
  obtain ⟨G, k, row, x, e, h1, h2, h3⟩ := h
  exact ⟨G, k, row, x, e, h1, (hR.2.1 G h1 (heap_is h2)).trans h2, h3⟩
theorem LitG.pick (h : LitG S n W v) {k : Nat} (hk : k < n) : ∃ G, v = .slice (some ⟨G, 0, none⟩) n n ∧ PickG S W (.pointer (some ⟨G, k, none⟩)) := by
  obtain ⟨G, row, rfl, h1, h2, h3⟩ := h
  obtain ⟨x, hx⟩ := h3 k hk
  exact ⟨G, rfl, G, k, row, x, rfl, h1, h2, hx⟩
theorem PickG.cell (h : PickG S W v) : ∃ p x, v = .pointer (some p) ∧ W.cell? p = some (.int .i64 x) := by
  obtain ⟨G, k, row, x, rfl, h1, h2, h3⟩ := h
  exact ⟨⟨G, k, none⟩, x, rfl, (cell_of_row W G k row _ (0, 0) h2).trans h3⟩
end
/-- In the midst of a draw: the source, the rows of the answer ahead of it, rows and numbers behind it. -/
structure RC (w : World) (S : Nat) (a : Option Addr) (len cap : Nat) (zs : List Int) (Ra Rb : Nat) (Za Oa Zb Ob : Obj) (rows : List (Nat × Obj)) (lo hi : Nat) (Pn : World → Prop) (W : World) : Prop where
  dr : Dr w S a len cap zs W
  ra : W.heap[Ra]? = some Za ∨ W.heap[Ra]? = some Oa
  rb : W.heap[Rb]? = some Zb ∨ W.heap[Rb]? = some Ob
  rows : ∀ r ∈ rows, S < r.1 ∧ W.heap[r.1]? = some r.2
  nums : Solid lo hi Pn W
  top : S < lo ∧ hi ≤ W.heap.size
  at_ : (Ra < S ∧ Rb < S) ∧ w.heap.size ≤ Ra ∧ w.heap.size ≤ Rb
  same : Ra = Rb → Oa = Ob
section
variable {w u u' : World} {S : Nat} {a : Option Addr} {len cap : Nat} {zs : List Int} {Ra Rb : Nat} {Za Oa Zb Ob : Obj} {rows : List (Nat × Obj)} {lo hi : Nat} {Pn : World → Prop} {W W' : World}
theorem Dr.outb (h : Dr w S a len cap zs u) {lo hi : Nat} (ho : Out lo hi u u') (hS : hi ≤ S) (hlo : w.heap.size ≤ lo) : Dr w S a len cap zs u' :=
  ⟨h.src.of_heap (ho.block S h.src.lt (.inr hS)), h.row.kept (ho.below (Below.refl w.heap.size u) hlo h.below.size) h.args, ho.below h.below hlo h.below.size, h.lo, h.args, h.few⟩
theorem RC.go (h : RC w S a len cap zs Ra Rb Za Oa Zb Ob rows lo hi Pn W) (hd : Dr w S a len cap zs W') (hg : W.grownBy W' (some S)) : RC w S a len cap zs Ra Rb Za Oa Zb Ob rows lo hi Pn W' := by
  have k : ∀ {R : Nat} {o : Obj}, R ≠ S → W.heap[R]? = some o → W'.heap[R]? = some o := fun hne h => (hg.block _ (heap_is h) (by simpa using hne)).trans h
  refine ⟨hd, ?_, ?_, fun r hr => ⟨(h.rows r hr).1, k (by have := (h.rows r hr).1; omega) (h.rows r hr).2⟩, ?_, ⟨h.top.1, Nat.le_trans h.top.2 hg.size⟩, h.at_, h.same⟩
  · rcases h.ra with q | q
    · exact .inl (k (by have := h.at_.1.1; omega) q)
    · exact .inr (k (by have := h.at_.1.1; omega) q)
  · rcases h.rb with q | q
    · exact .inl (k (by have := h.at_.1.2; omega) q)
    · exact .inr (k (by have := h.at_.1.2; omega) q)
  · refine h.nums.moved hg.size fun j h1 h2 => hg.block j (Nat.lt_of_lt_of_le h2 h.top.2) ?_
    have := h.top.1
    simp
    omega
theorem RC.rr (h : RC w S a len cap zs Ra Rb Za Oa Zb Ob rows lo hi Pn W) (hg : W.grownBy W' (some S)) : RR S Ra Rb Oa Ob W W' := RR.grown hg h.at_.1.1 h.at_.1.2
theorem RC.below (h : RC w S a len cap zs Ra Rb Za Oa Zb Ob rows lo hi Pn W) (hb : Below W.heap.size W W') : RC w S a len cap zs Ra Rb Za Oa Zb Ob rows lo hi Pn W' := h.go (h.dr.made hb) ⟨hb.os, hb.tape, hb.output, hb.size, fun k hk _ => hb.block k hk⟩
theorem RC.addRow (h : RC w S a len cap zs Ra Rb Za Oa Zb Ob rows lo hi Pn W) {R : Nat} {o : Obj} (hR : W.heap[R]? = some o) (hS : S < R) : RC w S a len cap zs Ra Rb Za Oa Zb Ob ((R, o) :: rows) lo hi Pn W :=
  ⟨h.dr, h.ra, h.rb, fun r hr => by
    rcases List.mem_cons.1 hr with rfl | hr
    · exact ⟨hS, hR⟩
    · exact h.rows r hr, h.nums, h.top, h.at_, h.same⟩
theorem RC.put (h : RC w S a len cap zs Ra Rb Za Oa Zb Ob rows lo hi Pn W) {R : Nat} {O : Obj} (hR : (R = Ra ∧ O = Oa) ∨ (R = Rb ∧ O = Ob)) (hg : W'.heap[R]? = some O) (ho : Out R (R + 1) W W') :
    RC w S a len cap zs Ra Rb Za Oa Zb Ob rows lo hi Pn W' ∧ RR S Ra Rb Oa Ob W W' := by
  have hRS : R < S ∧ w.heap.size ≤ R := by
    rcases hR with ⟨rfl, _⟩ | ⟨rfl, _⟩
    · exact ⟨h.at_.1.1, h.at_.2.1⟩
    · exact ⟨h.at_.1.2, h.at_.2.2⟩
  have k : ∀ {R' : Nat} {o : Obj}, R' ≠ R → W.heap[R']? = some o → W'.heap[R']? = some o := fun hne h => (ho.block _ (heap_is h) (by omega)).trans h
  have ka : ∀ {o : Obj}, W.heap[Ra]? = some o → W'.heap[Ra]? = some o ∨ W'.heap[Ra]? = some Oa := fun h' => by
    by_cases e : Ra = R
    · right
      rw [e, hg]
      rcases hR with ⟨_, rfl⟩ | ⟨e2, rfl⟩
      · rfl
      · rw [h.same (e.trans e2)]
    · exact .inl (k e h')
  have kb : ∀ {o : Obj}, W.heap[Rb]? = some o → W'.heap[Rb]? = some o ∨ W'.heap[Rb]? = some Ob := fun h' => by
    by_cases e : Rb = R
    · right
      rw [e, hg]
      rcases hR with ⟨e2, rfl⟩ | ⟨_, rfl⟩
      · rw [h.same (e2.symm.trans e.symm)]
      · rfl
    · exact .inl (k e h')
  refine ⟨⟨h.dr.outb ho hRS.1 hRS.2, ?_, ?_, fun r hr => ⟨(h.rows r hr).1, k (by have := (h.rows r hr).1; omega) (h.rows r hr).2⟩, h.nums.moved ho.size fun j h1 h2 => ho.block j (Nat.lt_of_lt_of_le h2 h.top.2) (by have := h.top.1; omega), ⟨h.top.1, Nat.le_trans h.top.2 ho.size⟩, h.at_, h.same⟩, ho.size, fun j h1 h2 => ho.block j h2 (by omega), fun q => ?_, fun q => ?_⟩
  · rcases h.ra with q | q
    · exact ka q
    · exact .inr ((ka q).elim id id)
  · rcases h.rb with q | q
    · exact kb q
    · exact .inr ((kb q).elim id id)
  · exact (ka q).elim id id
  · exact (kb q).elim id id
end
def TC5 (S V Ra Rb : Nat) (Oa Ob : Obj) (cv nv : Value) : Nat → World → Value → Prop
  | 0, _, v => v = cv
  | 1, _, v => v = .pointer (some ⟨V, 8, none⟩)
  | 2, _, v => ∃ x : Int, v = .int .i64 x
  | 3, _, v => v = nv
  | 4, w, _ => w.heap[Ra]? = some Oa
  | 5, _, v => ∃ x : Int, v = .int .i64 x
  | 6, w, _ => w.heap[Rb]? = some Ob
  | _ + 7, _, _ => True
theorem TC5.kept {S V Ra Rb : Nat} {Oa Ob : Obj} {cv nv : Value} : ∀ j w w' v, RR S Ra Rb Oa Ob w w' → TC5 S V Ra Rb Oa Ob cv nv j w v → TC5 S V Ra Rb Oa Ob cv nv j w' v
  | 0, _, _, _, _, h => h
  | 1, _, _, _, _, h => h
  | 2, _, _, _, _, h => h
  | 3, _, _, _, _, h => h
  | 4, _, _, _, hR, h => hR.2.2.1 h
  | 5, _, _, _, _, h => h
  | 6, _, _, _, hR, h => hR.2.2.2 h
  | _ + 7, _, _, _, _, _ => trivial
def TC7 (S V Ra Rb : Nat) (Oa Ob : Obj) (cv nv : Value) : Nat → World → Value → Prop
  | 0, _, v => v = cv
  | 1, w, v => LitG S 4 w v
  | 2, _, v => v = .pointer (some ⟨S, 0, none⟩)
  | 3, _, v => ∃ k : Nat, v = .int .i64 (k : Int) ∧ k < 4
  | 4, w, v => PickG S w v
  | 5, _, v => ∃ x : Int, v = .int .i64 x
  | 6, _, v => v = nv
  | 7, w, _ => w.heap[Ra]? = some Oa
  | 8, _, v => ∃ x : Int, v = .int .i64 x
  | 9, w, _ => w.heap[Rb]? = some Ob
  | _ + 10, _, _ => True
theorem TC7.kept {S V Ra Rb : Nat} {Oa Ob : Obj} {cv nv : Value} : ∀ j w w' v, RR S Ra Rb Oa Ob w w' → TC7 S V Ra Rb Oa Ob cv nv j w v → TC7 S V Ra Rb Oa Ob cv nv j w' v
  | 0, _, _, _, _, h => h
  | 1, _, _, _, hR, h => LitG.kept hR h
  | 2, _, _, _, _, h => h
  | 3, _, _, _, _, h => h
  | 4, _, _, _, hR, h => PickG.kept hR h
  | 5, _, _, _, _, h => h
  | 6, _, _, _, _, h => h
  | 7, _, _, _, hR, h => hR.2.2.1 h
  | 8, _, _, _, _, h => h
  | 9, _, _, _, hR, h => hR.2.2.2 h
  | _ + 10, _, _, _, _, _ => trivial
def TC8 (S V Ra Rb : Nat) (Oa Ob : Obj) (cv nv : Value) : Nat → World → Value → Prop
  | 0, _, v => v = cv
  | 1, _, v => v = .pointer (some ⟨S, 0, none⟩)
  | 2, _, v => ∃ x : Int, v = .int .i64 x
  | 3, _, v => v = nv
  | 4, w, _ => w.heap[Ra]? = some Oa
  | 5, _, v => ∃ x : Int, v = .int .i64 x
  | 6, w, _ => w.heap[Rb]? = some Ob
  | _ + 7, _, _ => True
theorem TC8.kept {S V Ra Rb : Nat} {Oa Ob : Obj} {cv nv : Value} : ∀ j w w' v, RR S Ra Rb Oa Ob w w' → TC8 S V Ra Rb Oa Ob cv nv j w v → TC8 S V Ra Rb Oa Ob cv nv j w' v
  | 0, _, _, _, _, h => h
  | 1, _, _, _, _, h => h
  | 2, _, _, _, _, h => h
  | 3, _, _, _, _, h => h
  | 4, _, _, _, hR, h => hR.2.2.1 h
  | 5, _, _, _, _, h => h
  | 6, _, _, _, hR, h => hR.2.2.2 h
  | _ + 7, _, _, _, _, _ => trivial
def TN4 (S V Ra Rb : Nat) (Oa Ob : Obj) (cv nv : Value) : Nat → World → Value → Prop
  | 0, _, v => v = nv
  | 1, w, v => LitG S 3 w v
  | 2, _, v => v = .pointer (some ⟨S, 0, none⟩)
  | 3, _, v => ∃ k : Nat, v = .int .i64 (k : Int) ∧ k < 3
  | 4, w, v => PickG S w v
  | 5, _, v => ∃ x : Int, v = .int .i64 x
  | 6, w, _ => w.heap[Ra]? = some Oa
  | 7, _, v => ∃ x : Int, v = .int .i64 x
  | _ + 8, _, _ => True
theorem TN4.kept {S V Ra Rb : Nat} {Oa Ob : Obj} {cv nv : Value} : ∀ j w w' v, RR S Ra Rb Oa Ob w w' → TN4 S V Ra Rb Oa Ob cv nv j w v → TN4 S V Ra Rb Oa Ob cv nv j w' v
  | 0, _, _, _, _, h => h
  | 1, _, _, _, hR, h => LitG.kept hR h
  | 2, _, _, _, _, h => h
  | 3, _, _, _, _, h => h
  | 4, _, _, _, hR, h => PickG.kept hR h
  | 5, _, _, _, _, h => h
  | 6, _, _, _, hR, h => hR.2.2.1 h
  | 7, _, _, _, _, h => h
  | _ + 8, _, _, _, _, _ => trivial
def TN5 (S V Ra Rb : Nat) (Oa Ob : Obj) (cv nv : Value) : Nat → World → Value → Prop
  | 0, _, v => v = nv
  | 1, _, v => v = .pointer (some ⟨S, 0, none⟩)
  | 2, _, v => ∃ x : Int, v = .int .i64 x
  | 3, w, _ => w.heap[Ra]? = some Oa
  | 4, _, v => ∃ x : Int, v = .int .i64 x
  | _ + 5, _, _ => True
theorem TN5.kept {S V Ra Rb : Nat} {Oa Ob : Obj} {cv nv : Value} : ∀ j w w' v, RR S Ra Rb Oa Ob w w' → TN5 S V Ra Rb Oa Ob cv nv j w v → TN5 S V Ra Rb Oa Ob cv nv j w' v
  | 0, _, _, _, _, h => h
  | 1, _, _, _, _, h => h
  | 2, _, _, _, _, h => h
  | 3, _, _, _, hR, h => hR.2.2.1 h
  | 4, _, _, _, _, h => h
  | _ + 5, _, _, _, _, _ => trivial
section
variable {w : World} {a : Option Addr} {len cap : Nat} {zs : List Int}
set_option maxRecDepth 100000 in
set_option maxHeartbeats 40000000 in
theorem drawClaimHear_any (hr : RowIn w a len zs) (hlen : len ≤ 1048576) (hba : 0 < len → ∀ b o, a = some ⟨b, o, none⟩ → b < w.heap.size) :
    Calls Try.prog 11 #[.slice a len cap] w fun e w' => ∃ (n : Nm) (ad st lf : Int) (b : Option Addr) (c : Nat) (l : List Int) (x : Int) (m : Nm), e = .returned (.tuple #[clV n ad st lf (.slice b l.length c), .int .i64 x, nmV m]) ∧ l.length ≤ 1000 ∧ NumsNew w.heap.size w'.heap.size w' b l ∧ Below w.heap.size w w' := by
  have HR0 := Lib.hid hr
  have HBA := Lib.hid hba
  clear hr hba
  go_enter Try.func11, Try.ntmps11
  go_wp2_with (first
    | (refine wpList_alloc_h rfl 27 rfl (.agg #[.int .i64 0, .int .i64 0, .int .i64 0, .int .i64 0, .int .i64 0, .int .i64 0, .int .i64 0, .bool false, .int .i64 0, .int .i64 0, .int .i64 0, .slice none 0 0]) (by kernel_rfl) #[.int .i64 0, .int .i64 0, .int .i64 0, .int .i64 0, .int .i64 0, .int .i64 0, .int .i64 0, .bool false, .int .i64 0, .int .i64 0, .int .i64 0, .slice none 0 0] rfl ?_; intro w1 R1 e1 g1 b1; have HL1 := Lib.hid (show Lg w w1 [(R1, #[.int .i64 0, .int .i64 0, .int .i64 0, .int .i64 0, .int .i64 0, .int .i64 0, .int .i64 0, .bool false, .int .i64 0, .int .i64 0, .int .i64 0, .slice none 0 0], 27)] [] from (Lg.first w).box e1 g1 b1); clear g1 b1 e1)
    | (refine wpList_alloc_h rfl 24 rfl (.agg #[.int .i64 0, .int .i64 0, .int .i64 0, .int .i64 0, .int .i64 0, .int .i64 0, .int .i64 0, .bool false]) (by kernel_rfl) #[.int .i64 0, .int .i64 0, .int .i64 0, .int .i64 0, .int .i64 0, .int .i64 0, .int .i64 0, .bool false] rfl ?_; intro w2 R2 e2 g2 b2; have qR2_R1 : R1 < R2 := Nat.lt_of_lt_of_eq (HL1.out.lt (.head _)) e2; have HL2 := Lib.hid (show Lg w w2 [(R2, #[.int .i64 0, .int .i64 0, .int .i64 0, .int .i64 0, .int .i64 0, .int .i64 0, .int .i64 0, .bool false], 24), (R1, #[.int .i64 0, .int .i64 0, .int .i64 0, .int .i64 0, .int .i64 0, .int .i64 0, .int .i64 0, .bool false, .int .i64 0, .int .i64 0, .int .i64 0, .slice none 0 0], 27)] [] from HL1.out.box e2 g2 b2); clear g2 b2 e2))
  have HS := Lib.hid (source_next (cap := cap) (HR0.out.kept HL2.out.below HBA.out) hlen (fun p b o e => Nat.lt_of_lt_of_le (HBA.out p b o e) HL2.out.below.size))
  refine HS.out.mono ?_
  rintro e u0 ⟨rfl, h0⟩
  obtain ⟨S, eS⟩ : ∃ S, w2.heap.size = S := ⟨_, rfl⟩
  obtain ⟨Ra, eRa⟩ : ∃ R, R1 = R := ⟨_, rfl⟩
  obtain ⟨Rb, eRb⟩ : ∃ R, R2 = R := ⟨_, rfl⟩
  have hd0 : Dr w S a len cap zs u0 := by rw [← eS]; exact h0.base HL2.out.below HBA.out
  have hab : Ra ≠ Rb := by rw [← eRa, ← eRb]; omega
  have hra : Ra < S ∧ w.heap.size ≤ Ra ∧ u0.heap[Ra]? = some (.cells #[.int .i64 0, .int .i64 0, .int .i64 0, .int .i64 0, .int .i64 0, .int .i64 0, .int .i64 0, .bool false, .int .i64 0, .int .i64 0, .int .i64 0, .slice none 0 0] 27) := by
    rw [← eRa, ← eS]
    exact ⟨HL2.out.lt (.tail _ (.head _)), HL2.out.ge (.tail _ (.head _)), (h0.below.block _ (HL2.out.lt (.tail _ (.head _)))).trans (HL2.out.get (.tail _ (.head _)))⟩
  have hrb : Rb < S ∧ w.heap.size ≤ Rb ∧ u0.heap[Rb]? = some (.cells #[.int .i64 0, .int .i64 0, .int .i64 0, .int .i64 0, .int .i64 0, .int .i64 0, .int .i64 0, .bool false] 24) := by
    rw [← eRb, ← eS]
    exact ⟨HL2.out.lt (.head _), HL2.out.ge (.head _), (h0.below.block _ (HL2.out.lt (.head _))).trans (HL2.out.get (.head _))⟩
  rw [eS, eRa, eRb]
  have HRA := Lib.hid hra
  have HRB := Lib.hid hrb
  have HAB := Lib.hid hab
  clear HL1 HL2 eS eRa eRb h0 HS hra hrb hab HR0
  go_wp2_with fail
  refine (claim_next hd0).mono ?_
  rintro e u1 ⟨⟨n0, n1, n2, n3, n4, n5, n6, n7⟩, ad, st, lf, b, c, l, rfl, hl, hn, hd1, hg1⟩
  have hS0 := hd0.src.lt
  obtain ⟨lo, elo⟩ : ∃ x, u0.heap.size = x := ⟨_, rfl⟩
  obtain ⟨hi, ehi⟩ : ∃ x, u1.heap.size = x := ⟨_, rfl⟩
  have HC1 := fun (m0 m1 m2 m3 m4 m5 m6 : Int) (m7 : Bool) => Lib.hid (show RC w S a len cap zs Ra Rb (.cells #[.int .i64 0, .int .i64 0, .int .i64 0, .int .i64 0, .int .i64 0, .int .i64 0, .int .i64 0, .bool false, .int .i64 0, .int .i64 0, .int .i64 0, .slice none 0 0] 27) (.cells #[.int .i64 n0, .int .i64 n1, .int .i64 n2, .int .i64 n3, .int .i64 n4, .int .i64 n5, .int .i64 n6, .bool n7, .int .i64 ad, .int .i64 st, .int .i64 lf, .slice b l.length c] 27) (.cells #[.int .i64 0, .int .i64 0, .int .i64 0, .int .i64 0, .int .i64 0, .int .i64 0, .int .i64 0, .bool false] 24) (.cells #[.int .i64 m0, .int .i64 m1, .int .i64 m2, .int .i64 m3, .int .i64 m4, .int .i64 m5, .int .i64 m6, .bool m7] 24) [] lo hi (fun W => NumsNew lo hi W b l) u1 from by
    subst elo ehi
    exact ⟨hd1, .inl ((hg1.block Ra (Nat.lt_trans HRA.out.1 hS0) (by have := HRA.out.1; simp; omega)).trans HRA.out.2.2), .inl ((hg1.block Rb (Nat.lt_trans HRB.out.1 hS0) (by have := HRB.out.1; simp; omega)).trans HRB.out.2.2), (fun r hr => nomatch hr), hn.solid, ⟨hS0, Nat.le_refl _⟩, ⟨⟨HRA.out.1, HRB.out.1⟩, HRA.out.2.1, HRB.out.2.1⟩, fun e => absurd e HAB.out⟩)
  have hS1 := hd1.src.lt
  have HLl := Lib.hid hl
  have HLo := Lib.hid (show w.heap.size ≤ lo from by rw [← elo]; exact hd0.below.size)
  clear hd0 hn hd1 hg1 hS0 hl elo ehi HRA HRB HAB
  unfold clV
  dsimp only
  go_wp2_with (first
    | (refine wpList_alloc_h rfl 27 rfl (.agg #[.int .i64 0, .int .i64 0, .int .i64 0, .int .i64 0, .int .i64 0, .int .i64 0, .int .i64 0, .bool false, .int .i64 0, .int .i64 0, .int .i64 0, .slice none 0 0]) (by kernel_rfl) #[.int .i64 0, .int .i64 0, .int .i64 0, .int .i64 0, .int .i64 0, .int .i64 0, .int .i64 0, .bool false, .int .i64 0, .int .i64 0, .int .i64 0, .slice none 0 0] rfl ?_; intro w1 cR1 e1 g1 b1; have HL1 := Lib.hid (show Lg u1 w1 [(cR1, #[.int .i64 0, .int .i64 0, .int .i64 0, .int .i64 0, .int .i64 0, .int .i64 0, .int .i64 0, .bool false, .int .i64 0, .int .i64 0, .int .i64 0, .slice none 0 0], 27)] [] from (Lg.first u1).box e1 g1 b1); clear g1 b1 e1)
    | (refine wpList_put_at rfl 27 (.tmp 6) (.tmp 11) rfl rfl (cR1) 0 rfl (.agg #[.int .i64 n0, .int .i64 n1, .int .i64 n2, .int .i64 n3, .int .i64 n4, .int .i64 n5, .int .i64 n6, .bool n7, .int .i64 ad, .int .i64 st, .int .i64 lf, .slice b l.length c]) rfl #[.int .i64 n0, .int .i64 n1, .int .i64 n2, .int .i64 n3, .int .i64 n4, .int .i64 n5, .int .i64 n6, .bool n7, .int .i64 ad, .int .i64 st, .int .i64 lf, .slice b l.length c] rfl 27 #[.int .i64 0, .int .i64 0, .int .i64 0, .int .i64 0, .int .i64 0, .int .i64 0, .int .i64 0, .bool false, .int .i64 0, .int .i64 0, .int .i64 0, .slice none 0 0] #[.int .i64 n0, .int .i64 n1, .int .i64 n2, .int .i64 n3, .int .i64 n4, .int .i64 n5, .int .i64 n6, .bool n7, .int .i64 ad, .int .i64 st, .int .i64 lf, .slice b l.length c] (HL1.out.get (.head _)) (by kernel_rfl) (by kernel_rfl) (by kernel_rfl) (by kernel_rfl) ?_; intro w2 g2 o2; have HL2 := Lib.hid (show Lg u1 w2 [(cR1, #[.int .i64 n0, .int .i64 n1, .int .i64 n2, .int .i64 n3, .int .i64 n4, .int .i64 n5, .int .i64 n6, .bool n7, .int .i64 ad, .int .i64 st, .int .i64 lf, .slice b l.length c], 27)] [] from HL1.out.put 0 rfl g2 o2 (fun _ h => nomatch h) (fun _ h => nomatch h) rfl); clear g2 o2))
  have HC2 := fun (m0 m1 m2 m3 m4 m5 m6 : Int) (m7 : Bool) => Lib.hid (((HC1 m0 m1 m2 m3 m4 m5 m6 m7).out.below HL2.out.below).addRow (HL2.out.get (.head _)) (Nat.lt_of_lt_of_le hS1 (HL2.out.ge (.head _))))
  obtain ⟨R6, eR6⟩ : ∃ R, cR1 = R := ⟨_, rfl⟩
  obtain ⟨v2, ev2⟩ : ∃ v, w2 = v := ⟨_, rfl⟩
  rw [eR6, ev2] at HC2
  rw [eR6, ev2]
  clear HL1 HL2 HC1 hS1 eR6 ev2
  go_wp2_with fail
  refine (name_next (HC2 0 0 0 0 0 0 0 false).out.dr).mono ?_
  rintro e u2 ⟨⟨m0, m1, m2, m3, m4, m5, m6, m7⟩, rfl, hd2, hg2⟩
  have HC3 := Lib.hid ((HC2 m0 m1 m2 m3 m4 m5 m6 m7).out.go hd2 hg2)
  have hS2 := hd2.src.lt
  clear HC2 hd2 hg2
  unfold nmV
  dsimp only
  go_wp2_with (first
    | (refine wpList_alloc_h rfl 24 rfl (.agg #[.int .i64 0, .int .i64 0, .int .i64 0, .int .i64 0, .int .i64 0, .int .i64 0, .int .i64 0, .bool false]) (by kernel_rfl) #[.int .i64 0, .int .i64 0, .int .i64 0, .int .i64 0, .int .i64 0, .int .i64 0, .int .i64 0, .bool false] rfl ?_; intro w1 dR1 e1 g1 b1; have HL1 := Lib.hid (show Lg u2 w1 [(dR1, #[.int .i64 0, .int .i64 0, .int .i64 0, .int .i64 0, .int .i64 0, .int .i64 0, .int .i64 0, .bool false], 24)] [] from (Lg.first u2).box e1 g1 b1); clear g1 b1 e1)
    | (refine wpList_put_at rfl 24 (.tmp 7) (.tmp 13) rfl rfl (dR1) 0 rfl (.agg #[.int .i64 m0, .int .i64 m1, .int .i64 m2, .int .i64 m3, .int .i64 m4, .int .i64 m5, .int .i64 m6, .bool m7]) rfl #[.int .i64 m0, .int .i64 m1, .int .i64 m2, .int .i64 m3, .int .i64 m4, .int .i64 m5, .int .i64 m6, .bool m7] rfl 24 #[.int .i64 0, .int .i64 0, .int .i64 0, .int .i64 0, .int .i64 0, .int .i64 0, .int .i64 0, .bool false] #[.int .i64 m0, .int .i64 m1, .int .i64 m2, .int .i64 m3, .int .i64 m4, .int .i64 m5, .int .i64 m6, .bool m7] (HL1.out.get (.head _)) (by kernel_rfl) (by kernel_rfl) (by kernel_rfl) (by kernel_rfl) ?_; intro w2 g2 o2; have HL2 := Lib.hid (show Lg u2 w2 [(dR1, #[.int .i64 m0, .int .i64 m1, .int .i64 m2, .int .i64 m3, .int .i64 m4, .int .i64 m5, .int .i64 m6, .bool m7], 24)] [] from HL1.out.put 0 rfl g2 o2 (fun _ h => nomatch h) (fun _ h => nomatch h) rfl); clear g2 o2))
  have HC4 := Lib.hid ((HC3.out.below HL2.out.below).addRow (HL2.out.get (.head _)) (Nat.lt_of_lt_of_le hS2 (HL2.out.ge (.head _))))
  obtain ⟨R7, eR7⟩ : ∃ R, dR1 = R := ⟨_, rfl⟩
  obtain ⟨v4, ev4⟩ : ∃ v, w2 = v := ⟨_, rfl⟩
  rw [eR7, ev4] at HC4
  rw [eR7, ev4]
  clear HL1 HL2 HC3 hS2 eR7 ev4
  go_wp2_with fail
  refine (one_next HC4.out.dr 2 (by omega)).mono ?_
  rintro e u3 ⟨y, rfl, hd3, hg3⟩
  have HC := Lib.hid (HC4.out.go hd3 hg3)
  clear hd3 hg3 HC4
  cases y
  · go_wp2_with fail
    refine (one_next HC.out.dr 8 (by omega)).mono ?_
    rintro e u4 ⟨y, rfl, hd4, hg4⟩
    have HC5 := Lib.hid (HC.out.go hd4 hg4)
    clear hd4 hg4 HC
    cases y
    · go_wp2_with fail
      refine wp_region_anyord (RC w S a len cap zs Ra Rb (.cells #[.int .i64 0, .int .i64 0, .int .i64 0, .int .i64 0, .int .i64 0, .int .i64 0, .int .i64 0, .bool false, .int .i64 0, .int .i64 0, .int .i64 0, .slice none 0 0] 27) (.cells #[.int .i64 n0, .int .i64 n1, .int .i64 n2, .int .i64 n3, .int .i64 n4, .int .i64 n5, .int .i64 n6, .bool n7, .int .i64 ad, .int .i64 st, .int .i64 lf, .slice b l.length c] 27) (.cells #[.int .i64 0, .int .i64 0, .int .i64 0, .int .i64 0, .int .i64 0, .int .i64 0, .int .i64 0, .bool false] 24) (.cells #[.int .i64 m0, .int .i64 m1, .int .i64 m2, .int .i64 m3, .int .i64 m4, .int .i64 m5, .int .i64 m6, .bool m7] 24) [(R7, .cells #[.int .i64 m0, .int .i64 m1, .int .i64 m2, .int .i64 m3, .int .i64 m4, .int .i64 m5, .int .i64 m6, .bool m7] 24), (R6, .cells #[.int .i64 n0, .int .i64 n1, .int .i64 n2, .int .i64 n3, .int .i64 n4, .int .i64 n5, .int .i64 n6, .bool n7, .int .i64 ad, .int .i64 st, .int .i64 lf, .slice b l.length c] 27)] lo hi (fun W => NumsNew lo hi W b l)) (RR S Ra Rb (.cells #[.int .i64 n0, .int .i64 n1, .int .i64 n2, .int .i64 n3, .int .i64 n4, .int .i64 n5, .int .i64 n6, .bool n7, .int .i64 ad, .int .i64 st, .int .i64 lf, .slice b l.length c] 27) (.cells #[.int .i64 m0, .int .i64 m1, .int .i64 m2, .int .i64 m3, .int .i64 m4, .int .i64 m5, .int .i64 m6, .bool m7] 24)) (TC8 S R6 Ra Rb (.cells #[.int .i64 n0, .int .i64 n1, .int .i64 n2, .int .i64 n3, .int .i64 n4, .int .i64 n5, .int .i64 n6, .bool n7, .int .i64 ad, .int .i64 st, .int .i64 lf, .slice b l.length c] 27) (.cells #[.int .i64 m0, .int .i64 m1, .int .i64 m2, .int .i64 m3, .int .i64 m4, .int .i64 m5, .int .i64 m6, .bool m7] 24) (.agg #[.int .i64 n0, .int .i64 n1, .int .i64 n2, .int .i64 n3, .int .i64 n4, .int .i64 n5, .int .i64 n6, .bool n7, .int .i64 ad, .int .i64 st, .int .i64 lf, .slice b l.length c]) (.agg #[.int .i64 m0, .int .i64 m1, .int .i64 m2, .int .i64 m3, .int .i64 m4, .int .i64 m5, .int .i64 m6, .bool m7])) (by kernel_rfl) (by kernel_rfl) (by kernel_rfl) TC8.kept ?_ ?_ ?_
      · exact HC5.out.below (Below.refl _ _).drew
      · refine ⟨⟨rfl, fun a1 W hC hK => ?_⟩, ⟨rfl, fun a1 W hC hK => ?_⟩, ⟨rfl, fun a1 W hC hK => ?_⟩, ⟨rfl, fun a1 W hC hK => ?_⟩, ⟨rfl, fun a1 W hC hK => ?_⟩, ⟨rfl, fun a1 W hC hK => ?_⟩, ⟨rfl, fun a1 W hC hK => ?_⟩, trivial⟩
        · have e1 : a1.eval (.tmp 6) = .pointer (some ⟨R6, 0, none⟩) := (hK.old 6 (by kernel_rfl)).trans rfl
          exact ob_load_row 27 (.tmp 6) rfl R6 e1 27 [.int .i64 n0, .int .i64 n1, .int .i64 n2, .int .i64 n3, .int .i64 n4, .int .i64 n5, .int .i64 n6, .bool n7, .int .i64 ad, .int .i64 st, .int .i64 lf, .slice b l.length c] (hC.rows _ (.tail _ (.head _))).2 _ Try.underlying27 rfl (by kernel_rfl) ⟨_, rfl, hC, RR.refl, rfl⟩
        · exact ob_move rfl ⟨_, rfl, hC, RR.refl, (hK.old 5 (by kernel_rfl)).trans rfl⟩
        · have e1 : a1.eval (.tmp 30) = .pointer (some ⟨S, 0, none⟩) := hK.get 1 30 (by kernel_rfl) rfl rfl rfl
          refine ob_call rfl Try.func56 (by kernel_rfl) (by kernel_rfl) (vals := #[.pointer (some ⟨S, 0, none⟩), .int .i64 6]) (by simp [e1, BigFrame.eval_const]) ?_
          refine (n_next hC.dr 6 (by omega)).mono ?_
          rintro e W' ⟨v, rfl, v0, vm, hd, hg⟩
          exact ⟨_, rfl, _, rfl, hC.go hd hg, hC.rr hg, v, rfl⟩
        · have e1 : a1.eval (.tmp 7) = .pointer (some ⟨R7, 0, none⟩) := (hK.old 7 (by kernel_rfl)).trans rfl
          exact ob_load_row 24 (.tmp 7) rfl R7 e1 24 [.int .i64 m0, .int .i64 m1, .int .i64 m2, .int .i64 m3, .int .i64 m4, .int .i64 m5, .int .i64 m6, .bool m7] (hC.rows _ (.head _)).2 _ Try.underlying24 rfl (by kernel_rfl) ⟨_, rfl, hC, RR.refl, rfl⟩
        · have e1 : a1.eval (.tmp 2) = .pointer (some ⟨Ra, 0, none⟩) := (hK.old 2 (by kernel_rfl)).trans rfl
          have e2 : a1.eval (.tmp 29) = .agg #[.int .i64 n0, .int .i64 n1, .int .i64 n2, .int .i64 n3, .int .i64 n4, .int .i64 n5, .int .i64 n6, .bool n7, .int .i64 ad, .int .i64 st, .int .i64 lf, .slice b l.length c] := hK.get 0 29 (by kernel_rfl) rfl rfl rfl
          rcases hC.ra with q | q
          · exact ob_put_all 27 (.tmp 2) (.tmp 29) rfl Ra e1 (.agg #[.int .i64 n0, .int .i64 n1, .int .i64 n2, .int .i64 n3, .int .i64 n4, .int .i64 n5, .int .i64 n6, .bool n7, .int .i64 ad, .int .i64 st, .int .i64 lf, .slice b l.length c]) e2 #[.int .i64 n0, .int .i64 n1, .int .i64 n2, .int .i64 n3, .int .i64 n4, .int .i64 n5, .int .i64 n6, .bool n7, .int .i64 ad, .int .i64 st, .int .i64 lf, .slice b l.length c] rfl 27 _ #[.int .i64 n0, .int .i64 n1, .int .i64 n2, .int .i64 n3, .int .i64 n4, .int .i64 n5, .int .i64 n6, .bool n7, .int .i64 ad, .int .i64 st, .int .i64 lf, .slice b l.length c] q (by kernel_rfl) (by kernel_rfl) (by kernel_rfl) (by kernel_rfl) (fun w' g1 o1 => ⟨_, rfl, (hC.put (.inl ⟨rfl, rfl⟩) g1 o1).1, (hC.put (.inl ⟨rfl, rfl⟩) g1 o1).2, g1⟩)
          · exact ob_put_all 27 (.tmp 2) (.tmp 29) rfl Ra e1 (.agg #[.int .i64 n0, .int .i64 n1, .int .i64 n2, .int .i64 n3, .int .i64 n4, .int .i64 n5, .int .i64 n6, .bool n7, .int .i64 ad, .int .i64 st, .int .i64 lf, .slice b l.length c]) e2 #[.int .i64 n0, .int .i64 n1, .int .i64 n2, .int .i64 n3, .int .i64 n4, .int .i64 n5, .int .i64 n6, .bool n7, .int .i64 ad, .int .i64 st, .int .i64 lf, .slice b l.length c] rfl 27 _ #[.int .i64 n0, .int .i64 n1, .int .i64 n2, .int .i64 n3, .int .i64 n4, .int .i64 n5, .int .i64 n6, .bool n7, .int .i64 ad, .int .i64 st, .int .i64 lf, .slice b l.length c] q (by kernel_rfl) (by kernel_rfl) (by kernel_rfl) (by kernel_rfl) (fun w' g1 o1 => ⟨_, rfl, (hC.put (.inl ⟨rfl, rfl⟩) g1 o1).1, (hC.put (.inl ⟨rfl, rfl⟩) g1 o1).2, g1⟩)
        · exact ob_value (BigFrame.run_assign _ rfl W) ⟨_, rfl, hC, RR.refl, hK.get 2 31 (by kernel_rfl) rfl rfl rfl⟩
        · have e1 : a1.eval (.tmp 4) = .pointer (some ⟨Rb, 0, none⟩) := (hK.old 4 (by kernel_rfl)).trans rfl
          have e2 : a1.eval (.tmp 32) = .agg #[.int .i64 m0, .int .i64 m1, .int .i64 m2, .int .i64 m3, .int .i64 m4, .int .i64 m5, .int .i64 m6, .bool m7] := hK.get 3 32 (by kernel_rfl) rfl rfl rfl
          rcases hC.rb with q | q
          · exact ob_put_all 24 (.tmp 4) (.tmp 32) rfl Rb e1 (.agg #[.int .i64 m0, .int .i64 m1, .int .i64 m2, .int .i64 m3, .int .i64 m4, .int .i64 m5, .int .i64 m6, .bool m7]) e2 #[.int .i64 m0, .int .i64 m1, .int .i64 m2, .int .i64 m3, .int .i64 m4, .int .i64 m5, .int .i64 m6, .bool m7] rfl 24 _ #[.int .i64 m0, .int .i64 m1, .int .i64 m2, .int .i64 m3, .int .i64 m4, .int .i64 m5, .int .i64 m6, .bool m7] q (by kernel_rfl) (by kernel_rfl) (by kernel_rfl) (by kernel_rfl) (fun w' g1 o1 => ⟨_, rfl, (hC.put (.inr ⟨rfl, rfl⟩) g1 o1).1, (hC.put (.inr ⟨rfl, rfl⟩) g1 o1).2, g1⟩)
          · exact ob_put_all 24 (.tmp 4) (.tmp 32) rfl Rb e1 (.agg #[.int .i64 m0, .int .i64 m1, .int .i64 m2, .int .i64 m3, .int .i64 m4, .int .i64 m5, .int .i64 m6, .bool m7]) e2 #[.int .i64 m0, .int .i64 m1, .int .i64 m2, .int .i64 m3, .int .i64 m4, .int .i64 m5, .int .i64 m6, .bool m7] rfl 24 _ #[.int .i64 m0, .int .i64 m1, .int .i64 m2, .int .i64 m3, .int .i64 m4, .int .i64 m5, .int .i64 m6, .bool m7] q (by kernel_rfl) (by kernel_rfl) (by kernel_rfl) (by kernel_rfl) (fun w' g1 o1 => ⟨_, rfl, (hC.put (.inr ⟨rfl, rfl⟩) g1 o1).1, (hC.put (.inr ⟨rfl, rfl⟩) g1 o1).2, g1⟩)
      · intro vs W hC hT
        obtain ⟨x, ex⟩ : ∃ x : Int, vs 5 = .int .i64 x := hT 5 (by decide)
        have qa : W.heap[Ra]? = some (.cells #[.int .i64 n0, .int .i64 n1, .int .i64 n2, .int .i64 n3, .int .i64 n4, .int .i64 n5, .int .i64 n6, .bool n7, .int .i64 ad, .int .i64 st, .int .i64 lf, .slice b l.length c] 27) := hT 4 (by decide)
        have qb : W.heap[Rb]? = some (.cells #[.int .i64 m0, .int .i64 m1, .int .i64 m2, .int .i64 m3, .int .i64 m4, .int .i64 m5, .int .i64 m6, .bool m7] 24) := hT 6 (by decide)
        simp only [fillL, if_true, Act.put, List.setIfInBounds_toArray, List.set_cons_zero, List.set_cons_succ, ex]
        have a0 := cell_of_row W Ra 0 _ _ (0, 0) qa
        have a1 := cell_of_row W Ra 1 _ _ (0, 0) qa
        have a2 := cell_of_row W Ra 2 _ _ (0, 0) qa
        have a3 := cell_of_row W Ra 3 _ _ (0, 0) qa
        have a4 := cell_of_row W Ra 4 _ _ (0, 0) qa
        have a5 := cell_of_row W Ra 5 _ _ (0, 0) qa
        have a6 := cell_of_row W Ra 6 _ _ (0, 0) qa
        have a7 := cell_of_row W Ra 7 _ _ (0, 0) qa
        have a8 := cell_of_row W Ra 8 _ _ (0, 0) qa
        have a9 := cell_of_row W Ra 9 _ _ (0, 0) qa
        have a10 := cell_of_row W Ra 10 _ _ (0, 0) qa
        have a11 := cell_of_row W Ra 11 _ _ (0, 0) qa
        have b0 := cell_of_row W Rb 0 _ _ (0, 0) qb
        have b1 := cell_of_row W Rb 1 _ _ (0, 0) qb
        have b2 := cell_of_row W Rb 2 _ _ (0, 0) qb
        have b3 := cell_of_row W Rb 3 _ _ (0, 0) qb
        have b4 := cell_of_row W Rb 4 _ _ (0, 0) qb
        have b5 := cell_of_row W Rb 5 _ _ (0, 0) qb
        have b6 := cell_of_row W Rb 6 _ _ (0, 0) qb
        have b7 := cell_of_row W Rb 7 _ _ (0, 0) qb
        simp only [List.getElem?_toArray, List.getElem?_cons_zero, List.getElem?_cons_succ] at a0 a1 a2 a3 a4 a5 a6 a7 a8 a9 a10 a11 b0 b1 b2 b3 b4 b5 b6 b7
        have HB := Lib.hid hC.dr.below
        have HNn := Lib.hid (hC.nums.here.wide HLo.out hC.top.2)
        clear hC hT ex qa qb
        go_wp2_with fail
        exact bodyPost_ret (v := .tuple #[.agg #[.int .i64 n0, .int .i64 n1, .int .i64 n2, .int .i64 n3, .int .i64 n4, .int .i64 n5, .int .i64 n6, .bool n7, .int .i64 ad, .int .i64 st, .int .i64 lf, .slice b l.length c], .int .i64 x, .agg #[.int .i64 m0, .int .i64 m1, .int .i64 m2, .int .i64 m3, .int .i64 m4, .int .i64 m5, .int .i64 m6, .bool m7]]) (by simp [results, Try.results11, go_sem, a0, a1, a2, a3, a4, a5, a6, a7, a8, a9, a10, a11, b0, b1, b2, b3, b4, b5, b6, b7]) rfl ⟨⟨n0, n1, n2, n3, n4, n5, n6, n7⟩, ad, st, lf, b, c, l, x, ⟨m0, m1, m2, m3, m4, m5, m6, m7⟩, rfl, HLl.out, HNn.out, HB.out⟩
    · go_wp2_with fail
      refine wp_region_anyord (RC w S a len cap zs Ra Rb (.cells #[.int .i64 0, .int .i64 0, .int .i64 0, .int .i64 0, .int .i64 0, .int .i64 0, .int .i64 0, .bool false, .int .i64 0, .int .i64 0, .int .i64 0, .slice none 0 0] 27) (.cells #[.int .i64 n0, .int .i64 n1, .int .i64 n2, .int .i64 n3, .int .i64 n4, .int .i64 n5, .int .i64 n6, .bool n7, .int .i64 ad, .int .i64 st, .int .i64 lf, .slice b l.length c] 27) (.cells #[.int .i64 0, .int .i64 0, .int .i64 0, .int .i64 0, .int .i64 0, .int .i64 0, .int .i64 0, .bool false] 24) (.cells #[.int .i64 m0, .int .i64 m1, .int .i64 m2, .int .i64 m3, .int .i64 m4, .int .i64 m5, .int .i64 m6, .bool m7] 24) [(R7, .cells #[.int .i64 m0, .int .i64 m1, .int .i64 m2, .int .i64 m3, .int .i64 m4, .int .i64 m5, .int .i64 m6, .bool m7] 24), (R6, .cells #[.int .i64 n0, .int .i64 n1, .int .i64 n2, .int .i64 n3, .int .i64 n4, .int .i64 n5, .int .i64 n6, .bool n7, .int .i64 ad, .int .i64 st, .int .i64 lf, .slice b l.length c] 27)] lo hi (fun W => NumsNew lo hi W b l)) (RR S Ra Rb (.cells #[.int .i64 n0, .int .i64 n1, .int .i64 n2, .int .i64 n3, .int .i64 n4, .int .i64 n5, .int .i64 n6, .bool n7, .int .i64 ad, .int .i64 st, .int .i64 lf, .slice b l.length c] 27) (.cells #[.int .i64 m0, .int .i64 m1, .int .i64 m2, .int .i64 m3, .int .i64 m4, .int .i64 m5, .int .i64 m6, .bool m7] 24)) (TC7 S R6 Ra Rb (.cells #[.int .i64 n0, .int .i64 n1, .int .i64 n2, .int .i64 n3, .int .i64 n4, .int .i64 n5, .int .i64 n6, .bool n7, .int .i64 ad, .int .i64 st, .int .i64 lf, .slice b l.length c] 27) (.cells #[.int .i64 m0, .int .i64 m1, .int .i64 m2, .int .i64 m3, .int .i64 m4, .int .i64 m5, .int .i64 m6, .bool m7] 24) (.agg #[.int .i64 n0, .int .i64 n1, .int .i64 n2, .int .i64 n3, .int .i64 n4, .int .i64 n5, .int .i64 n6, .bool n7, .int .i64 ad, .int .i64 st, .int .i64 lf, .slice b l.length c]) (.agg #[.int .i64 m0, .int .i64 m1, .int .i64 m2, .int .i64 m3, .int .i64 m4, .int .i64 m5, .int .i64 m6, .bool m7])) (by kernel_rfl) (by kernel_rfl) (by kernel_rfl) TC7.kept ?_ ?_ ?_
      · exact HC5.out.below (Below.refl _ _).drew
      · refine ⟨⟨rfl, fun a1 W hC hK => ?_⟩, ⟨rfl, fun a1 W hC hK => ?_⟩, ⟨rfl, fun a1 W hC hK => ?_⟩, ⟨rfl, fun a1 W hC hK => ?_⟩, ⟨rfl, fun a1 W hC hK => ?_⟩, ⟨rfl, fun a1 W hC hK => ?_⟩, ⟨rfl, fun a1 W hC hK => ?_⟩, ⟨rfl, fun a1 W hC hK => ?_⟩, ⟨rfl, fun a1 W hC hK => ?_⟩, ⟨rfl, fun a1 W hC hK => ?_⟩, trivial⟩
        · have e1 : a1.eval (.tmp 6) = .pointer (some ⟨R6, 0, none⟩) := (hK.old 6 (by kernel_rfl)).trans rfl
          exact ob_load_row 27 (.tmp 6) rfl R6 e1 27 [.int .i64 n0, .int .i64 n1, .int .i64 n2, .int .i64 n3, .int .i64 n4, .int .i64 n5, .int .i64 n6, .bool n7, .int .i64 ad, .int .i64 st, .int .i64 lf, .slice b l.length c] (hC.rows _ (.tail _ (.head _))).2 _ Try.underlying27 rfl (by kernel_rfl) ⟨_, rfl, hC, RR.refl, rfl⟩
        · exact ob_value (v := .slice (some ⟨W.heap.size, 0, none⟩) 4 4) (w' := W.alloc (.cells #[.int .i64 (-1), .int .i64 254, .int .i64 255, .int .i64 256] 2)) (by simp [execOp, go_sem]) ⟨_, rfl, hC.go (hC.dr.alloc _) (World.grownBy_alloc _ _ _), hC.rr (World.grownBy_alloc _ _ _), W.heap.size, _, rfl, hC.dr.src.lt, heap_alloc_new W _, fun k hk => by
            match k, hk with
            | 0, _ => exact ⟨-1, rfl⟩
            | 1, _ => exact ⟨254, rfl⟩
            | 2, _ => exact ⟨255, rfl⟩
            | 3, _ => exact ⟨256, rfl⟩⟩
        · exact ob_move rfl ⟨_, rfl, hC, RR.refl, (hK.old 5 (by kernel_rfl)).trans rfl⟩
        · have e1 : a1.eval (.tmp 24) = .pointer (some ⟨S, 0, none⟩) := hK.get 2 24 (by kernel_rfl) rfl rfl rfl
          refine ob_call rfl Try.func56 (by kernel_rfl) (by kernel_rfl) (vals := #[.pointer (some ⟨S, 0, none⟩), .int .i64 4]) (by simp [e1, BigFrame.eval_const]) ?_
          refine (n_next hC.dr 4 (by omega)).mono ?_
          rintro e W' ⟨v, rfl, v0, vm, hd, hg⟩
          exact ⟨_, rfl, _, rfl, hC.go hd hg, hC.rr hg, v.toNat, by rw [Int.toNat_of_nonneg v0], by omega⟩
        · have h9 : LitG S 4 W (a1.eval (.tmp 23)) := hK.get 1 23 (by kernel_rfl) rfl rfl rfl
          obtain ⟨k, e2, hk⟩ : ∃ k : Nat, a1.eval (.tmp 25) = .int .i64 (k : Int) ∧ k < 4 := hK.get 3 25 (by kernel_rfl) rfl rfl rfl
          obtain ⟨G, e1, hp⟩ := h9.pick hk
          have k0 : (0 : Int) ≤ (k : Int) := by omega
          have k1 : (k : Int) < 4 := by omega
          simp only [Act.eval, Array.getD_eq_getD_getElem?] at e1 e2
          exact ob_value (v := .pointer (some ⟨G, k, none⟩)) (w' := W) (by simp [execOp, go_sem, e1, e2, k0, k1]) ⟨_, rfl, hC, RR.refl, hp⟩
        · have h12 : PickG S W (a1.eval (.tmp 26)) := hK.get 4 26 (by kernel_rfl) rfl rfl rfl
          obtain ⟨p, x, e1, hcl⟩ := h12.cell
          simp only [Act.eval, Array.getD_eq_getD_getElem?] at e1
          exact ob_value (v := .int .i64 x) (w' := W) (by simp [execOp, go_sem, e1, hcl]) ⟨_, rfl, hC, RR.refl, x, rfl⟩
        · have e1 : a1.eval (.tmp 7) = .pointer (some ⟨R7, 0, none⟩) := (hK.old 7 (by kernel_rfl)).trans rfl
          exact ob_load_row 24 (.tmp 7) rfl R7 e1 24 [.int .i64 m0, .int .i64 m1, .int .i64 m2, .int .i64 m3, .int .i64 m4, .int .i64 m5, .int .i64 m6, .bool m7] (hC.rows _ (.head _)).2 _ Try.underlying24 rfl (by kernel_rfl) ⟨_, rfl, hC, RR.refl, rfl⟩
        · have e1 : a1.eval (.tmp 2) = .pointer (some ⟨Ra, 0, none⟩) := (hK.old 2 (by kernel_rfl)).trans rfl
          have e2 : a1.eval (.tmp 22) = .agg #[.int .i64 n0, .int .i64 n1, .int .i64 n2, .int .i64 n3, .int .i64 n4, .int .i64 n5, .int .i64 n6, .bool n7, .int .i64 ad, .int .i64 st, .int .i64 lf, .slice b l.length c] := hK.get 0 22 (by kernel_rfl) rfl rfl rfl
          rcases hC.ra with q | q
          · exact ob_put_all 27 (.tmp 2) (.tmp 22) rfl Ra e1 (.agg #[.int .i64 n0, .int .i64 n1, .int .i64 n2, .int .i64 n3, .int .i64 n4, .int .i64 n5, .int .i64 n6, .bool n7, .int .i64 ad, .int .i64 st, .int .i64 lf, .slice b l.length c]) e2 #[.int .i64 n0, .int .i64 n1, .int .i64 n2, .int .i64 n3, .int .i64 n4, .int .i64 n5, .int .i64 n6, .bool n7, .int .i64 ad, .int .i64 st, .int .i64 lf, .slice b l.length c] rfl 27 _ #[.int .i64 n0, .int .i64 n1, .int .i64 n2, .int .i64 n3, .int .i64 n4, .int .i64 n5, .int .i64 n6, .bool n7, .int .i64 ad, .int .i64 st, .int .i64 lf, .slice b l.length c] q (by kernel_rfl) (by kernel_rfl) (by kernel_rfl) (by kernel_rfl) (fun w' g1 o1 => ⟨_, rfl, (hC.put (.inl ⟨rfl, rfl⟩) g1 o1).1, (hC.put (.inl ⟨rfl, rfl⟩) g1 o1).2, g1⟩)
          · exact ob_put_all 27 (.tmp 2) (.tmp 22) rfl Ra e1 (.agg #[.int .i64 n0, .int .i64 n1, .int .i64 n2, .int .i64 n3, .int .i64 n4, .int .i64 n5, .int .i64 n6, .bool n7, .int .i64 ad, .int .i64 st, .int .i64 lf, .slice b l.length c]) e2 #[.int .i64 n0, .int .i64 n1, .int .i64 n2, .int .i64 n3, .int .i64 n4, .int .i64 n5, .int .i64 n6, .bool n7, .int .i64 ad, .int .i64 st, .int .i64 lf, .slice b l.length c] rfl 27 _ #[.int .i64 n0, .int .i64 n1, .int .i64 n2, .int .i64 n3, .int .i64 n4, .int .i64 n5, .int .i64 n6, .bool n7, .int .i64 ad, .int .i64 st, .int .i64 lf, .slice b l.length c] q (by kernel_rfl) (by kernel_rfl) (by kernel_rfl) (by kernel_rfl) (fun w' g1 o1 => ⟨_, rfl, (hC.put (.inl ⟨rfl, rfl⟩) g1 o1).1, (hC.put (.inl ⟨rfl, rfl⟩) g1 o1).2, g1⟩)
        · exact ob_value (BigFrame.run_assign _ rfl W) ⟨_, rfl, hC, RR.refl, hK.get 5 27 (by kernel_rfl) rfl rfl rfl⟩
        · have e1 : a1.eval (.tmp 4) = .pointer (some ⟨Rb, 0, none⟩) := (hK.old 4 (by kernel_rfl)).trans rfl
          have e2 : a1.eval (.tmp 28) = .agg #[.int .i64 m0, .int .i64 m1, .int .i64 m2, .int .i64 m3, .int .i64 m4, .int .i64 m5, .int .i64 m6, .bool m7] := hK.get 6 28 (by kernel_rfl) rfl rfl rfl
          rcases hC.rb with q | q
          · exact ob_put_all 24 (.tmp 4) (.tmp 28) rfl Rb e1 (.agg #[.int .i64 m0, .int .i64 m1, .int .i64 m2, .int .i64 m3, .int .i64 m4, .int .i64 m5, .int .i64 m6, .bool m7]) e2 #[.int .i64 m0, .int .i64 m1, .int .i64 m2, .int .i64 m3, .int .i64 m4, .int .i64 m5, .int .i64 m6, .bool m7] rfl 24 _ #[.int .i64 m0, .int .i64 m1, .int .i64 m2, .int .i64 m3, .int .i64 m4, .int .i64 m5, .int .i64 m6, .bool m7] q (by kernel_rfl) (by kernel_rfl) (by kernel_rfl) (by kernel_rfl) (fun w' g1 o1 => ⟨_, rfl, (hC.put (.inr ⟨rfl, rfl⟩) g1 o1).1, (hC.put (.inr ⟨rfl, rfl⟩) g1 o1).2, g1⟩)
          · exact ob_put_all 24 (.tmp 4) (.tmp 28) rfl Rb e1 (.agg #[.int .i64 m0, .int .i64 m1, .int .i64 m2, .int .i64 m3, .int .i64 m4, .int .i64 m5, .int .i64 m6, .bool m7]) e2 #[.int .i64 m0, .int .i64 m1, .int .i64 m2, .int .i64 m3, .int .i64 m4, .int .i64 m5, .int .i64 m6, .bool m7] rfl 24 _ #[.int .i64 m0, .int .i64 m1, .int .i64 m2, .int .i64 m3, .int .i64 m4, .int .i64 m5, .int .i64 m6, .bool m7] q (by kernel_rfl) (by kernel_rfl) (by kernel_rfl) (by kernel_rfl) (fun w' g1 o1 => ⟨_, rfl, (hC.put (.inr ⟨rfl, rfl⟩) g1 o1).1, (hC.put (.inr ⟨rfl, rfl⟩) g1 o1).2, g1⟩)
      · intro vs W hC hT
        obtain ⟨x, ex⟩ : ∃ x : Int, vs 8 = .int .i64 x := hT 8 (by decide)
        have qa : W.heap[Ra]? = some (.cells #[.int .i64 n0, .int .i64 n1, .int .i64 n2, .int .i64 n3, .int .i64 n4, .int .i64 n5, .int .i64 n6, .bool n7, .int .i64 ad, .int .i64 st, .int .i64 lf, .slice b l.length c] 27) := hT 7 (by decide)
        have qb : W.heap[Rb]? = some (.cells #[.int .i64 m0, .int .i64 m1, .int .i64 m2, .int .i64 m3, .int .i64 m4, .int .i64 m5, .int .i64 m6, .bool m7] 24) := hT 9 (by decide)
        simp only [fillL, if_true, Act.put, List.setIfInBounds_toArray, List.set_cons_zero, List.set_cons_succ, ex]
        have a0 := cell_of_row W Ra 0 _ _ (0, 0) qa
        have a1 := cell_of_row W Ra 1 _ _ (0, 0) qa
        have a2 := cell_of_row W Ra 2 _ _ (0, 0) qa
        have a3 := cell_of_row W Ra 3 _ _ (0, 0) qa
        have a4 := cell_of_row W Ra 4 _ _ (0, 0) qa
        have a5 := cell_of_row W Ra 5 _ _ (0, 0) qa
        have a6 := cell_of_row W Ra 6 _ _ (0, 0) qa
        have a7 := cell_of_row W Ra 7 _ _ (0, 0) qa
        have a8 := cell_of_row W Ra 8 _ _ (0, 0) qa
        have a9 := cell_of_row W Ra 9 _ _ (0, 0) qa
        have a10 := cell_of_row W Ra 10 _ _ (0, 0) qa
        have a11 := cell_of_row W Ra 11 _ _ (0, 0) qa
        have b0 := cell_of_row W Rb 0 _ _ (0, 0) qb
        have b1 := cell_of_row W Rb 1 _ _ (0, 0) qb
        have b2 := cell_of_row W Rb 2 _ _ (0, 0) qb
        have b3 := cell_of_row W Rb 3 _ _ (0, 0) qb
        have b4 := cell_of_row W Rb 4 _ _ (0, 0) qb
        have b5 := cell_of_row W Rb 5 _ _ (0, 0) qb
        have b6 := cell_of_row W Rb 6 _ _ (0, 0) qb
        have b7 := cell_of_row W Rb 7 _ _ (0, 0) qb
        simp only [List.getElem?_toArray, List.getElem?_cons_zero, List.getElem?_cons_succ] at a0 a1 a2 a3 a4 a5 a6 a7 a8 a9 a10 a11 b0 b1 b2 b3 b4 b5 b6 b7
        have HB := Lib.hid hC.dr.below
        have HNn := Lib.hid (hC.nums.here.wide HLo.out hC.top.2)
        clear hC hT ex qa qb
        go_wp2_with fail
        exact bodyPost_ret (v := .tuple #[.agg #[.int .i64 n0, .int .i64 n1, .int .i64 n2, .int .i64 n3, .int .i64 n4, .int .i64 n5, .int .i64 n6, .bool n7, .int .i64 ad, .int .i64 st, .int .i64 lf, .slice b l.length c], .int .i64 x, .agg #[.int .i64 m0, .int .i64 m1, .int .i64 m2, .int .i64 m3, .int .i64 m4, .int .i64 m5, .int .i64 m6, .bool m7]]) (by simp [results, Try.results11, go_sem, a0, a1, a2, a3, a4, a5, a6, a7, a8, a9, a10, a11, b0, b1, b2, b3, b4, b5, b6, b7]) rfl ⟨⟨n0, n1, n2, n3, n4, n5, n6, n7⟩, ad, st, lf, b, c, l, x, ⟨m0, m1, m2, m3, m4, m5, m6, m7⟩, rfl, HLl.out, HNn.out, HB.out⟩
  · go_wp2_with fail
    refine wp_region_anyord (RC w S a len cap zs Ra Rb (.cells #[.int .i64 0, .int .i64 0, .int .i64 0, .int .i64 0, .int .i64 0, .int .i64 0, .int .i64 0, .bool false, .int .i64 0, .int .i64 0, .int .i64 0, .slice none 0 0] 27) (.cells #[.int .i64 n0, .int .i64 n1, .int .i64 n2, .int .i64 n3, .int .i64 n4, .int .i64 n5, .int .i64 n6, .bool n7, .int .i64 ad, .int .i64 st, .int .i64 lf, .slice b l.length c] 27) (.cells #[.int .i64 0, .int .i64 0, .int .i64 0, .int .i64 0, .int .i64 0, .int .i64 0, .int .i64 0, .bool false] 24) (.cells #[.int .i64 m0, .int .i64 m1, .int .i64 m2, .int .i64 m3, .int .i64 m4, .int .i64 m5, .int .i64 m6, .bool m7] 24) [(R7, .cells #[.int .i64 m0, .int .i64 m1, .int .i64 m2, .int .i64 m3, .int .i64 m4, .int .i64 m5, .int .i64 m6, .bool m7] 24), (R6, .cells #[.int .i64 n0, .int .i64 n1, .int .i64 n2, .int .i64 n3, .int .i64 n4, .int .i64 n5, .int .i64 n6, .bool n7, .int .i64 ad, .int .i64 st, .int .i64 lf, .slice b l.length c] 27)] lo hi (fun W => NumsNew lo hi W b l)) (RR S Ra Rb (.cells #[.int .i64 n0, .int .i64 n1, .int .i64 n2, .int .i64 n3, .int .i64 n4, .int .i64 n5, .int .i64 n6, .bool n7, .int .i64 ad, .int .i64 st, .int .i64 lf, .slice b l.length c] 27) (.cells #[.int .i64 m0, .int .i64 m1, .int .i64 m2, .int .i64 m3, .int .i64 m4, .int .i64 m5, .int .i64 m6, .bool m7] 24)) (TC5 S R6 Ra Rb (.cells #[.int .i64 n0, .int .i64 n1, .int .i64 n2, .int .i64 n3, .int .i64 n4, .int .i64 n5, .int .i64 n6, .bool n7, .int .i64 ad, .int .i64 st, .int .i64 lf, .slice b l.length c] 27) (.cells #[.int .i64 m0, .int .i64 m1, .int .i64 m2, .int .i64 m3, .int .i64 m4, .int .i64 m5, .int .i64 m6, .bool m7] 24) (.agg #[.int .i64 n0, .int .i64 n1, .int .i64 n2, .int .i64 n3, .int .i64 n4, .int .i64 n5, .int .i64 n6, .bool n7, .int .i64 ad, .int .i64 st, .int .i64 lf, .slice b l.length c]) (.agg #[.int .i64 m0, .int .i64 m1, .int .i64 m2, .int .i64 m3, .int .i64 m4, .int .i64 m5, .int .i64 m6, .bool m7])) (by kernel_rfl) (by kernel_rfl) (by kernel_rfl) TC5.kept ?_ ?_ ?_
    · exact HC.out.below (Below.refl _ _).drew
    · refine ⟨⟨rfl, fun a1 W hC hK => ?_⟩, ⟨rfl, fun a1 W hC hK => ?_⟩, ⟨rfl, fun a1 W hC hK => ?_⟩, ⟨rfl, fun a1 W hC hK => ?_⟩, ⟨rfl, fun a1 W hC hK => ?_⟩, ⟨rfl, fun a1 W hC hK => ?_⟩, ⟨rfl, fun a1 W hC hK => ?_⟩, trivial⟩
      · have e1 : a1.eval (.tmp 6) = .pointer (some ⟨R6, 0, none⟩) := (hK.old 6 (by kernel_rfl)).trans rfl
        exact ob_load_row 27 (.tmp 6) rfl R6 e1 27 [.int .i64 n0, .int .i64 n1, .int .i64 n2, .int .i64 n3, .int .i64 n4, .int .i64 n5, .int .i64 n6, .bool n7, .int .i64 ad, .int .i64 st, .int .i64 lf, .slice b l.length c] (hC.rows _ (.tail _ (.head _))).2 _ Try.underlying27 rfl (by kernel_rfl) ⟨_, rfl, hC, RR.refl, rfl⟩
      · have e1 : a1.eval (.tmp 6) = .pointer (some ⟨R6, 0, none⟩) := (hK.old 6 (by kernel_rfl)).trans rfl
        simp only [Act.eval, Array.getD_eq_getD_getElem?] at e1
        exact ob_value (v := .pointer (some ⟨R6, 8, none⟩)) (w' := W) (by simp [execOp, go_sem, e1]) ⟨_, rfl, hC, RR.refl, rfl⟩
      · have e1 : a1.eval (.tmp 17) = .pointer (some ⟨R6, 8, none⟩) := hK.get 1 17 (by kernel_rfl) rfl rfl rfl
        have hcl : W.cell? ⟨R6, 8, none⟩ = some (.int .i64 ad) := (cell_of_row W R6 8 _ _ (0, 0) (hC.rows _ (.tail _ (.head _))).2).trans rfl
        simp only [Act.eval, Array.getD_eq_getD_getElem?] at e1
        exact ob_value (v := .int .i64 ad) (w' := W) (by simp [execOp, go_sem, e1, hcl]) ⟨_, rfl, hC, RR.refl, ad, rfl⟩
      · have e1 : a1.eval (.tmp 7) = .pointer (some ⟨R7, 0, none⟩) := (hK.old 7 (by kernel_rfl)).trans rfl
        exact ob_load_row 24 (.tmp 7) rfl R7 e1 24 [.int .i64 m0, .int .i64 m1, .int .i64 m2, .int .i64 m3, .int .i64 m4, .int .i64 m5, .int .i64 m6, .bool m7] (hC.rows _ (.head _)).2 _ Try.underlying24 rfl (by kernel_rfl) ⟨_, rfl, hC, RR.refl, rfl⟩
      · have e1 : a1.eval (.tmp 2) = .pointer (some ⟨Ra, 0, none⟩) := (hK.old 2 (by kernel_rfl)).trans rfl
        have e2 : a1.eval (.tmp 16) = .agg #[.int .i64 n0, .int .i64 n1, .int .i64 n2, .int .i64 n3, .int .i64 n4, .int .i64 n5, .int .i64 n6, .bool n7, .int .i64 ad, .int .i64 st, .int .i64 lf, .slice b l.length c] := hK.get 0 16 (by kernel_rfl) rfl rfl rfl
        rcases hC.ra with q | q
        · exact ob_put_all 27 (.tmp 2) (.tmp 16) rfl Ra e1 (.agg #[.int .i64 n0, .int .i64 n1, .int .i64 n2, .int .i64 n3, .int .i64 n4, .int .i64 n5, .int .i64 n6, .bool n7, .int .i64 ad, .int .i64 st, .int .i64 lf, .slice b l.length c]) e2 #[.int .i64 n0, .int .i64 n1, .int .i64 n2, .int .i64 n3, .int .i64 n4, .int .i64 n5, .int .i64 n6, .bool n7, .int .i64 ad, .int .i64 st, .int .i64 lf, .slice b l.length c] rfl 27 _ #[.int .i64 n0, .int .i64 n1, .int .i64 n2, .int .i64 n3, .int .i64 n4, .int .i64 n5, .int .i64 n6, .bool n7, .int .i64 ad, .int .i64 st, .int .i64 lf, .slice b l.length c] q (by kernel_rfl) (by kernel_rfl) (by kernel_rfl) (by kernel_rfl) (fun w' g1 o1 => ⟨_, rfl, (hC.put (.inl ⟨rfl, rfl⟩) g1 o1).1, (hC.put (.inl ⟨rfl, rfl⟩) g1 o1).2, g1⟩)
        · exact ob_put_all 27 (.tmp 2) (.tmp 16) rfl Ra e1 (.agg #[.int .i64 n0, .int .i64 n1, .int .i64 n2, .int .i64 n3, .int .i64 n4, .int .i64 n5, .int .i64 n6, .bool n7, .int .i64 ad, .int .i64 st, .int .i64 lf, .slice b l.length c]) e2 #[.int .i64 n0, .int .i64 n1, .int .i64 n2, .int .i64 n3, .int .i64 n4, .int .i64 n5, .int .i64 n6, .bool n7, .int .i64 ad, .int .i64 st, .int .i64 lf, .slice b l.length c] rfl 27 _ #[.int .i64 n0, .int .i64 n1, .int .i64 n2, .int .i64 n3, .int .i64 n4, .int .i64 n5, .int .i64 n6, .bool n7, .int .i64 ad, .int .i64 st, .int .i64 lf, .slice b l.length c] q (by kernel_rfl) (by kernel_rfl) (by kernel_rfl) (by kernel_rfl) (fun w' g1 o1 => ⟨_, rfl, (hC.put (.inl ⟨rfl, rfl⟩) g1 o1).1, (hC.put (.inl ⟨rfl, rfl⟩) g1 o1).2, g1⟩)
      · exact ob_value (BigFrame.run_assign _ rfl W) ⟨_, rfl, hC, RR.refl, hK.get 2 18 (by kernel_rfl) rfl rfl rfl⟩
      · have e1 : a1.eval (.tmp 4) = .pointer (some ⟨Rb, 0, none⟩) := (hK.old 4 (by kernel_rfl)).trans rfl
        have e2 : a1.eval (.tmp 19) = .agg #[.int .i64 m0, .int .i64 m1, .int .i64 m2, .int .i64 m3, .int .i64 m4, .int .i64 m5, .int .i64 m6, .bool m7] := hK.get 3 19 (by kernel_rfl) rfl rfl rfl
        rcases hC.rb with q | q
        · exact ob_put_all 24 (.tmp 4) (.tmp 19) rfl Rb e1 (.agg #[.int .i64 m0, .int .i64 m1, .int .i64 m2, .int .i64 m3, .int .i64 m4, .int .i64 m5, .int .i64 m6, .bool m7]) e2 #[.int .i64 m0, .int .i64 m1, .int .i64 m2, .int .i64 m3, .int .i64 m4, .int .i64 m5, .int .i64 m6, .bool m7] rfl 24 _ #[.int .i64 m0, .int .i64 m1, .int .i64 m2, .int .i64 m3, .int .i64 m4, .int .i64 m5, .int .i64 m6, .bool m7] q (by kernel_rfl) (by kernel_rfl) (by kernel_rfl) (by kernel_rfl) (fun w' g1 o1 => ⟨_, rfl, (hC.put (.inr ⟨rfl, rfl⟩) g1 o1).1, (hC.put (.inr ⟨rfl, rfl⟩) g1 o1).2, g1⟩)
        · exact ob_put_all 24 (.tmp 4) (.tmp 19) rfl Rb e1 (.agg #[.int .i64 m0, .int .i64 m1, .int .i64 m2, .int .i64 m3, .int .i64 m4, .int .i64 m5, .int .i64 m6, .bool m7]) e2 #[.int .i64 m0, .int .i64 m1, .int .i64 m2, .int .i64 m3, .int .i64 m4, .int .i64 m5, .int .i64 m6, .bool m7] rfl 24 _ #[.int .i64 m0, .int .i64 m1, .int .i64 m2, .int .i64 m3, .int .i64 m4, .int .i64 m5, .int .i64 m6, .bool m7] q (by kernel_rfl) (by kernel_rfl) (by kernel_rfl) (by kernel_rfl) (fun w' g1 o1 => ⟨_, rfl, (hC.put (.inr ⟨rfl, rfl⟩) g1 o1).1, (hC.put (.inr ⟨rfl, rfl⟩) g1 o1).2, g1⟩)
    · intro vs W hC hT
      obtain ⟨x, ex⟩ : ∃ x : Int, vs 5 = .int .i64 x := hT 5 (by decide)
      have qa : W.heap[Ra]? = some (.cells #[.int .i64 n0, .int .i64 n1, .int .i64 n2, .int .i64 n3, .int .i64 n4, .int .i64 n5, .int .i64 n6, .bool n7, .int .i64 ad, .int .i64 st, .int .i64 lf, .slice b l.length c] 27) := hT 4 (by decide)
      have qb : W.heap[Rb]? = some (.cells #[.int .i64 m0, .int .i64 m1, .int .i64 m2, .int .i64 m3, .int .i64 m4, .int .i64 m5, .int .i64 m6, .bool m7] 24) := hT 6 (by decide)
      simp only [fillL, if_true, Act.put, List.setIfInBounds_toArray, List.set_cons_zero, List.set_cons_succ, ex]
      have a0 := cell_of_row W Ra 0 _ _ (0, 0) qa
      have a1 := cell_of_row W Ra 1 _ _ (0, 0) qa
      have a2 := cell_of_row W Ra 2 _ _ (0, 0) qa
      have a3 := cell_of_row W Ra 3 _ _ (0, 0) qa
      have a4 := cell_of_row W Ra 4 _ _ (0, 0) qa
      have a5 := cell_of_row W Ra 5 _ _ (0, 0) qa
      have a6 := cell_of_row W Ra 6 _ _ (0, 0) qa
      have a7 := cell_of_row W Ra 7 _ _ (0, 0) qa
      have a8 := cell_of_row W Ra 8 _ _ (0, 0) qa
      have a9 := cell_of_row W Ra 9 _ _ (0, 0) qa
      have a10 := cell_of_row W Ra 10 _ _ (0, 0) qa
      have a11 := cell_of_row W Ra 11 _ _ (0, 0) qa
      have b0 := cell_of_row W Rb 0 _ _ (0, 0) qb
      have b1 := cell_of_row W Rb 1 _ _ (0, 0) qb
      have b2 := cell_of_row W Rb 2 _ _ (0, 0) qb
      have b3 := cell_of_row W Rb 3 _ _ (0, 0) qb
      have b4 := cell_of_row W Rb 4 _ _ (0, 0) qb
      have b5 := cell_of_row W Rb 5 _ _ (0, 0) qb
      have b6 := cell_of_row W Rb 6 _ _ (0, 0) qb
      have b7 := cell_of_row W Rb 7 _ _ (0, 0) qb
      simp only [List.getElem?_toArray, List.getElem?_cons_zero, List.getElem?_cons_succ] at a0 a1 a2 a3 a4 a5 a6 a7 a8 a9 a10 a11 b0 b1 b2 b3 b4 b5 b6 b7
      have HB := Lib.hid hC.dr.below
      have HNn := Lib.hid (hC.nums.here.wide HLo.out hC.top.2)
      clear hC hT ex qa qb
      go_wp2_with fail
      exact bodyPost_ret (v := .tuple #[.agg #[.int .i64 n0, .int .i64 n1, .int .i64 n2, .int .i64 n3, .int .i64 n4, .int .i64 n5, .int .i64 n6, .bool n7, .int .i64 ad, .int .i64 st, .int .i64 lf, .slice b l.length c], .int .i64 x, .agg #[.int .i64 m0, .int .i64 m1, .int .i64 m2, .int .i64 m3, .int .i64 m4, .int .i64 m5, .int .i64 m6, .bool m7]]) (by simp [results, Try.results11, go_sem, a0, a1, a2, a3, a4, a5, a6, a7, a8, a9, a10, a11, b0, b1, b2, b3, b4, b5, b6, b7]) rfl ⟨⟨n0, n1, n2, n3, n4, n5, n6, n7⟩, ad, st, lf, b, c, l, x, ⟨m0, m1, m2, m3, m4, m5, m6, m7⟩, rfl, HLl.out, HNn.out, HB.out⟩
end
end Go.Proofs.Ytdhmcepnmbchkaa
