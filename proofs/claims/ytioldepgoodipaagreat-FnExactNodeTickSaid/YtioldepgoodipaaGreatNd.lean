/- A Node's lists: that came in, and that a call made, each elsewhere than the others; a Node that came in. -/
import Derived.Test.YtioldepgoodipaaGreatOpenSe
import Derived.Test.YtioldepgoodipaaGreatOpenDvs
import Derived.Test.YtioldepgoodipaaGreatOpenGts
import Derived.Test.YtioldepgoodipaaGreatNews
import Derived.Test.YtioldepgoodipaaGreatClaimMath
namespace Go.Proofs.YtioldepgoodipaaGreat
open Go.RowKit Go.ChangeShapes Go.WideShapes Go.ChangeAt Go.Joins
set_option linter.unusedVariables false

/-- A Node. -/
structure Nd where
  c : Cl
  q : List (Int × ByteArray)
  t : List Se
  d : List Dv
  g : List Gt
  s : Int
/-- Its cells, its lists at these places. -/
def ndV (x : Nd) (a1 a2 a3 a4 a5 : Option Addr) (c1 c2 c3 c4 c5 : Nat) : Value :=
  .agg #[.int .i64 x.c.n.u, .int .i64 x.c.n.m, .int .i64 x.c.n.i, .int .i64 x.c.n.f, .int .i64 x.c.n.c, .int .i64 x.c.n.s, .int .i64 x.c.n.y, .bool x.c.n.a, .int .i64 x.c.ad, .int .i64 x.c.st, .int .i64 x.c.lf, .slice a1 x.c.tk.length c1, .slice a2 x.q.length c2, .slice a3 x.t.length c3, .slice a4 x.d.length c4, .slice a5 x.g.length c5, .int .i64 x.s]
theorem NewIn.solid {lo hi : Nat} {w : World} {a : Option Addr} {l : List (Int × ByteArray)} (h : NewIn lo hi w a l) : Solid lo hi (fun W => NewIn lo hi W a l) w := by
  intro W' hs hk
  rcases h with h | ⟨b, o, rfl, h3, h4, hlt, hf, hc⟩
  · exact .inl h
  · have hb := hk b h3 h4
    exact .inr ⟨b, o, rfl, h3, h4, Nat.lt_of_lt_of_le hlt hs, fun j hj => (World.frozen?_of_block (a := ⟨b, _, none⟩) hb).trans (hf j hj), fun i x hi => ⟨(World.cell?_of_block (a := ⟨b, _, none⟩) hb).trans (hc i x hi).1, (World.cell?_of_block (a := ⟨b, _, none⟩) hb).trans (hc i x hi).2⟩⟩
/-- The lists of a Node. -/
def NdIn (W : World) (a1 a2 a3 a4 a5 : Option Addr) (x : Nd) : Prop := NumsIn W a1 x.c.tk ∧ CansIn W a2 x.q ∧ RsIn seL 7 W a3 x.t ∧ RsIn dvL 10 W a4 x.d ∧ RsIn gtL 3 W a5 x.g
/-- They lie in memory of a call's own, each elsewhere than the others. -/
def NdNew (lo hi : Nat) (W : World) (a1 a2 a3 a4 a5 : Option Addr) (x : Nd) : Prop :=
  ∃ l1 h1 l2 h2 l3 h3 l4 h4 l5 h5, (lo ≤ l1 ∧ l1 ≤ h1 ∧ h1 ≤ hi) ∧ (lo ≤ l2 ∧ l2 ≤ h2 ∧ h2 ≤ hi) ∧ (lo ≤ l3 ∧ l3 ≤ h3 ∧ h3 ≤ hi) ∧ (lo ≤ l4 ∧ l4 ≤ h4 ∧ h4 ≤ hi) ∧ (lo ≤ l5 ∧ l5 ≤ h5 ∧ h5 ≤ hi) ∧ (h1 ≤ l2 ∨ h2 ≤ l1) ∧ (h1 ≤ l3 ∨ h3 ≤ l1) ∧ (h1 ≤ l4 ∨ h4 ≤ l1) ∧ (h1 ≤ l5 ∨ h5 ≤ l1) ∧ (h2 ≤ l3 ∨ h3 ≤ l2) ∧ (h2 ≤ l4 ∨ h4 ≤ l2) ∧ (h2 ≤ l5 ∨ h5 ≤ l2) ∧ (h3 ≤ l4 ∨ h4 ≤ l3) ∧ (h3 ≤ l5 ∨ h5 ≤ l3) ∧ (h4 ≤ l5 ∨ h5 ≤ l4) ∧ NumsNew l1 h1 W a1 x.c.tk ∧ NewIn l2 h2 W a2 x.q ∧ RsNew seL 7 159 l3 h3 W a3 x.t ∧ RsNew dvL 10 162 l4 h4 W a4 x.d ∧ RsNew gtL 3 144 l5 h5 W a5 x.g
section
variable {lo hi lo' hi' : Nat} {w w' : World} {a1 a2 a3 a4 a5 : Option Addr} {x : Nd}
theorem NdIn.kept (h : NdIn w a1 a2 a3 a4 a5 x) (hb : Below w.heap.size w w') : NdIn w' a1 a2 a3 a4 a5 x := ⟨h.1.kept hb, h.2.1.kept hb, h.2.2.1.kept hb, h.2.2.2.1.kept hb, h.2.2.2.2.kept hb⟩
theorem NdNew.ins (k : NdNew lo hi w a1 a2 a3 a4 a5 x) : NdIn w a1 a2 a3 a4 a5 x := by
  obtain ⟨l1, h1, l2, h2, l3, h3, l4, h4, l5, h5, b1, b2, b3, b4, b5, d12, d13, d14, d15, d23, d24, d25, d34, d35, d45, k1, k2, k3, k4, k5⟩ := k
  exact ⟨k1.nums, k2.cans, k3.ins, k4.ins, k5.ins⟩
theorem NdNew.solid (k : NdNew lo hi w a1 a2 a3 a4 a5 x) : Solid lo hi (fun W => NdNew lo hi W a1 a2 a3 a4 a5 x) w := by
  obtain ⟨l1, h1, l2, h2, l3, h3, l4, h4, l5, h5, b1, b2, b3, b4, b5, d12, d13, d14, d15, d23, d24, d25, d34, d35, d45, k1, k2, k3, k4, k5⟩ := k
  intro W' hs hk
  exact ⟨l1, h1, l2, h2, l3, h3, l4, h4, l5, h5, b1, b2, b3, b4, b5, d12, d13, d14, d15, d23, d24, d25, d34, d35, d45, k1.solid W' hs (fun k a b => hk k (by omega) (by omega)), k2.solid W' hs (fun k a b => hk k (by omega) (by omega)), k3.solid W' hs (fun k a b => hk k (by omega) (by omega)), k4.solid W' hs (fun k a b => hk k (by omega) (by omega)), k5.solid W' hs (fun k a b => hk k (by omega) (by omega))⟩
theorem NdNew.kept (k : NdNew lo hi w a1 a2 a3 a4 a5 x) (hb : Below w.heap.size w w') : NdNew lo hi w' a1 a2 a3 a4 a5 x := by
  obtain ⟨l1, h1, l2, h2, l3, h3, l4, h4, l5, h5, b1, b2, b3, b4, b5, d12, d13, d14, d15, d23, d24, d25, d34, d35, d45, k1, k2, k3, k4, k5⟩ := k
  exact ⟨l1, h1, l2, h2, l3, h3, l4, h4, l5, h5, b1, b2, b3, b4, b5, d12, d13, d14, d15, d23, d24, d25, d34, d35, d45, k1.kept hb, k2.kept hb, k3.kept hb, k4.kept hb, k5.kept hb⟩
theorem NdNew.wide (k : NdNew lo hi w a1 a2 a3 a4 a5 x) (g1 : lo' ≤ lo) (g2 : hi ≤ hi') : NdNew lo' hi' w a1 a2 a3 a4 a5 x := by
  obtain ⟨l1, h1, l2, h2, l3, h3, l4, h4, l5, h5, b1, b2, b3, b4, b5, d12, d13, d14, d15, d23, d24, d25, d34, d35, d45, k1, k2, k3, k4, k5⟩ := k
  exact ⟨l1, h1, l2, h2, l3, h3, l4, h4, l5, h5, by omega, by omega, by omega, by omega, by omega, d12, d13, d14, d15, d23, d24, d25, d34, d35, d45, k1, k2, k3, k4, k5⟩
end
/-- The value is a Node. -/
def IsNd (w : World) (v : Value) : Prop := ∃ (x : Nd) (a1 a2 a3 a4 a5 : Option Addr) (c1 c2 c3 c4 c5 : Nat), v = ndV x a1 a2 a3 a4 a5 c1 c2 c3 c4 c5 ∧ NdIn w a1 a2 a3 a4 a5 x ∧
  ((I64 x.c.ad ∧ I64 x.c.st ∧ I64 x.c.lf ∧ I64 x.s ∧ Nums64 x.c.tk) ∧ CansOk x.q ∧ SesOk x.t ∧ (∀ y ∈ x.d, DvOk y) ∧ (∀ y ∈ x.g, GtOk y)) ∧
  (x.c.tk.length ≤ maxLen ∧ x.q.length ≤ maxLen ∧ x.t.length ≤ maxLen ∧ x.d.length ≤ maxLen ∧ x.g.length ≤ maxLen)
section
variable {H : Type} {enc : TypeId × Value → H} {w : World} {base : Nat} {spare : Nat → Bool} {held : Bool} {b0 : Nat} {r : Reach} {v : Value} {d : DataW H} {ps : List MemPlace}
theorem cells_Nd : Tryz.prog.cellsOf 34 = 17 := by kernel_rfl
theorem cells_NdS : Tryz.prog.cellsOf 30 = 1 := by kernel_rfl
theorem cells_NdD : Tryz.prog.cellsOf 31 = 1 := by kernel_rfl
theorem cells_NdG : Tryz.prog.cellsOf 32 = 1 := by kernel_rfl
theorem list6 {α : Type} {l : List α} (h : l.length = 6) : ∃ x0 x1 x2 x3 x4 x5, l = [x0, x1, x2, x3, x4, x5] := by
  match l, h with
  | [x0, x1, x2, x3, x4, x5], _ => exact ⟨x0, x1, x2, x3, x4, x5, rfl⟩
theorem list17 {α : Type} {l : List α} (h : l.length = 17) : ∃ x0 x1 x2 x3 x4 x5 x6 x7 x8 x9 y0 y1 y2 y3 y4 y5 y6, l = [x0, x1, x2, x3, x4, x5, x6, x7, x8, x9, y0, y1, y2, y3, y4, y5, y6] := by
  match l, h with
  | [x0, x1, x2, x3, x4, x5, x6, x7, x8, x9, y0, y1, y2, y3, y4, y5, y6], _ => exact ⟨x0, x1, x2, x3, x4, x5, x6, x7, x8, x9, y0, y1, y2, y3, y4, y5, y6, rfl⟩
set_option maxRecDepth 100000 in
theorem cl_of_trod {fuel : Nat} {cs : List Value} {x : DataW H × List MemPlace} (hl : cs.length = 12) (hf : DataW.trod enc Tryz.prog w base spare held fuel 26 cs = some x) :
    ∃ (c : Cl) (a : Option Addr) (cap : Nat), cs = [.int .i64 c.n.u, .int .i64 c.n.m, .int .i64 c.n.i, .int .i64 c.n.f, .int .i64 c.n.c, .int .i64 c.n.s, .int .i64 c.n.y, .bool c.n.a, .int .i64 c.ad, .int .i64 c.st, .int .i64 c.lf, .slice a c.tk.length cap] ∧ I64 c.ad ∧ I64 c.st ∧ I64 c.lf ∧ NumsIn w a c.tk ∧ Nums64 c.tk ∧ c.tk.length ≤ maxLen := by
  obtain ⟨c0, c1, c2, c3, c4, c5, c6, c7, c8, c9, c10, c11, rfl⟩ := list12 hl
  obtain ⟨xs, n, _, _, _, hlen, hall⟩ := DataW.trod_struct Tryz.underlying26 hf
  obtain ⟨y0, y1, y2, y3, y4, rfl⟩ := list5 (by simpa using hlen)
  have h0 := hall 0 _ rfl
  have h1 := hall 1 _ rfl
  have h2 := hall 2 _ rfl
  have h3 := hall 3 _ rfl
  have h4 := hall 4 _ rfl
  clear hall hf hlen
  simp [cells_Nm, cells_num, cells_nums] at h0 h1 h2 h3 h4
  obtain ⟨m, rfl, rfl, rfl, rfl, rfl, rfl, rfl, rfl, _⟩ := nm_of_trod h0
  obtain ⟨ad, e1, _, w1⟩ := DataW.trod_int Tryz.underlying2 h1
  obtain ⟨st, e2, _, w2⟩ := DataW.trod_int Tryz.underlying2 h2
  obtain ⟨lf, e3, _, w3⟩ := DataW.trod_int Tryz.underlying2 h3
  obtain ⟨a, cap, l, e4, k1, k2, k3⟩ := nums_of_trod h4
  simp at e1 e2 e3 e4
  subst e1 e2 e3 e4
  exact ⟨⟨m, ad, st, lf, l⟩, a, cap, rfl, .of_wf w1, .of_wf w2, .of_wf w3, k1, k2, k3⟩
set_option maxRecDepth 100000 in
theorem open_Nd (hv : Value.okWide Tryz.prog w r b0 34 v) (h : DataW.Trod enc Tryz.prog w base spare held 34 v d ps) : IsNd w v := by
  obtain ⟨cs, rfl, hsz⟩ := okWide_struct Tryz.underlying34 hv
  obtain ⟨ls⟩ := cs
  obtain ⟨c0, c1, c2, c3, c4, c5, c6, c7, c8, c9, c10, c11, c12, c13, c14, c15, c16, rfl⟩ := list17 ((by simpa using hsz : ls.length = _).trans cells_Nd)
  obtain ⟨fuel, hf⟩ := h
  obtain ⟨xs, n, _, _, _, hlen, hall⟩ := DataW.trod_struct Tryz.underlying34 hf
  obtain ⟨y0, y1, y2, y3, y4, y5, rfl⟩ := list6 (by simpa using hlen)
  have h0 := hall 0 _ rfl
  have h1 := hall 1 _ rfl
  have h2 := hall 2 _ rfl
  have h3 := hall 3 _ rfl
  have h4 := hall 4 _ rfl
  have h5 := hall 5 _ rfl
  clear hall hf hlen
  simp [Value.cells, cells_Cl, cells_Queue, cells_NdS, cells_NdD, cells_NdG, cells_num] at h0 h1 h2 h3 h4 h5
  obtain ⟨c, a1, cap1, e0, i1, i2, i3, p1, p2, p3⟩ := cl_of_trod rfl h0
  obtain ⟨z0, _, _, _, hq⟩ := trod_struct1 Tryz.underlying29 h1
  obtain ⟨a2, cap2, q, e1, q1, q2, q3⟩ := cans_of_trod hq
  obtain ⟨a3, cap3, t, e2, r1, r2, r3⟩ := ses_of_trod h2
  obtain ⟨a4, cap4, dl, e3, s1, s2, s3⟩ := Dvs_of_trod h3
  obtain ⟨a5, cap5, g, e4, t1, t2, t3⟩ := Gts_of_trod h4
  obtain ⟨sq, e5, _, w5⟩ := DataW.trod_int Tryz.underlying2 h5
  simp [cells_CanS] at e0 e1 e2 e3 e4 e5
  obtain ⟨rfl, rfl, rfl, rfl, rfl, rfl, rfl, rfl, rfl, rfl, rfl, rfl⟩ := e0
  subst e1 e2 e3 e4 e5
  exact ⟨⟨c, q, t, dl, g, sq⟩, a1, a2, a3, a4, a5, cap1, cap2, cap3, cap4, cap5, rfl, ⟨p1, q1, r1, s1, t1⟩, ⟨⟨i1, i2, i3, .of_wf w5, p2⟩, q2, r2, s2, t2⟩, p3, q3, r3, s3, t3⟩
end
end Go.Proofs.YtioldepgoodipaaGreat
