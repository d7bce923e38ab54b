/- What comes in: numbers, texts, and structs of these by value, as the laws' shells want them. -/
import Derived.Test.YtioldepgoodipaaGreatOwn
import Derived.Test.YtioldepgoodipaaGreatCans
import Derived.Test.YtioldepgoodipaaGreatName
import Derived.Test.YtioldepgoodipaaGreatNums
import Derived.ChangeOld
import Derived.Lib.SmallJoins
import Derived.OpenShut
namespace Go.Proofs.YtioldepgoodipaaGreat
open Go.RowKit Go.ChangeShapes Go.WideShapes Go.ChangeAt Go.Joins
set_option linter.unusedVariables false

/-- A number of 64 bits. -/
def I64 (n : Int) : Prop := -9223372036854775808 ≤ n ∧ n ≤ 9223372036854775807
theorem I64.of_wf {n : Int} (h : (Lit.int .i64 n).wf = true) : I64 n := by
  simp [Lit.wf, IntKind.min, IntKind.max, IntKind.signed, IntKind.bits] at h
  unfold I64
  omega
/-- The value is a number of 64 bits. -/
def IsI64 (v : Value) : Prop := ∃ n, v = .int .i64 n ∧ I64 n
/-- The value is a text. -/
def IsStr (v : Value) : Prop := ∃ s : ByteArray, v = .string s ∧ s.size ≤ maxLen
theorem list_of {α : Type} {P : Nat → α → Prop} : ∀ n, (∀ i, i < n → ∃ x, P i x) → ∃ l : List α, l.length = n ∧ ∀ i x, l[i]? = some x → P i x
  | 0, _ => ⟨[], rfl, fun i x h => by simp at h⟩
  | n + 1, h => by
    obtain ⟨l, hl, hp⟩ := list_of n fun i hi => h i (by omega)
    obtain ⟨x, hx⟩ := h n (by omega)
    refine ⟨l ++ [x], by simp [hl], fun i y hy => ?_⟩
    rcases Nat.lt_or_ge i n with h' | h'
    · rw [List.getElem?_append_left (by omega)] at hy
      exact hp i y hy
    · have hi : i < (l ++ [x]).length := (List.getElem?_eq_some_iff.1 hy).1
      have hin : i = n := by simp at hi; omega
      subst hin
      rw [List.getElem?_append_right (by omega), hl] at hy
      simp at hy
      subst hy
      exact hx
section
variable {H : Type} {enc : TypeId × Value → H} {w : World} {base : Nat} {spare : Nat → Bool} {held : Bool} {b0 : Nat} {r : Reach} {v : Value} {d : DataW H} {ps : List MemPlace}
set_option maxRecDepth 100000 in
theorem open_I64 {t : TypeId} (ht : Tryz.prog.underlying t = some (.int .i64)) (hv : Value.okWide Tryz.prog w r b0 t v) (h : DataW.Trod enc Tryz.prog w base spare held t v d ps) : IsI64 v := by
  obtain ⟨a, rfl, _, _, w0⟩ := open_int ht hv h
  exact ⟨a, rfl, .of_wf w0⟩
set_option maxRecDepth 100000 in
theorem open_Str {t : TypeId} (ht : Tryz.prog.underlying t = some .string) (hv : Value.okWide Tryz.prog w r b0 t v) (h : DataW.Trod enc Tryz.prog w base spare held t v d ps) : IsStr v := by
  obtain ⟨a, rfl, _, _, w0⟩ := Go.ChangeMaps.open_string ht hv h
  exact ⟨a, rfl, w0⟩

/-- The value is a Can. -/
def IsCan (v : Value) : Prop := ∃ n, ∃ s : ByteArray, v = .agg #[.int .i64 n, .string s] ∧ I64 n ∧ s.size ≤ maxLen
theorem cells_Can : Tryz.prog.cellsOf 63 = 2 := by kernel_rfl
theorem cells_int64 : Tryz.prog.cellsOf 2 = 1 := by kernel_rfl
theorem cells_str : Tryz.prog.cellsOf 9 = 1 := by kernel_rfl
set_option maxRecDepth 100000 in
theorem open_Can (hv : Value.okWide Tryz.prog w r b0 63 v) (h : DataW.Trod enc Tryz.prog w base spare held 63 v d ps) : IsCan v := by
  obtain ⟨cs, rfl, hsz⟩ := okWide_struct Tryz.underlying63 hv
  obtain ⟨c0, c1, rfl⟩ := array2 (hsz.trans cells_Can)
  obtain ⟨fuel, hf⟩ := h
  obtain ⟨y0, y1, n, hx, _, h0, h1⟩ := trod_struct2 Tryz.underlying63 hf
  obtain ⟨a, e0, _, wa⟩ := DataW.trod_int Tryz.underlying2 h0
  obtain ⟨s, e1, _, ws⟩ := DataW.trod_string Tryz.underlying9 h1
  simp [Value.cells, cells_int64, cells_str] at e0 e1
  subst e0 e1
  exact ⟨a, s, rfl, .of_wf wa, ws⟩
theorem cells_num : Tryz.prog.cellsOf 2 = 1 := by kernel_rfl
set_option maxRecDepth 100000 in
theorem nums_of_trod {fuel : Nat} {cs : List Value} {x : DataW H × List MemPlace} (hf : DataW.trod enc Tryz.prog w base spare held fuel 24 cs = some x) :
    ∃ (a : Option Addr) (cap : Nat) (l : List Int), cs = [.slice a l.length cap] ∧ NumsIn w a l ∧ Nums64 l ∧ l.length ≤ maxLen := by
  rcases DataW.trod_slice Tryz.underlying24 hf with ⟨hcs, _⟩ | ⟨a', len', cap', elems, rest, n, _, hcs, _, hb, hl, hm, hlen, hel, _, _⟩
  · subst hcs
    exact ⟨none, 0, [], rfl, .inl rfl, (by intro x hx; cases hx), by simp⟩
  · subst hcs
    have each : ∀ i, i < len' → ∃ x : Int, I64 x ∧ a'.block < w.heap.size ∧ w.cell? ((a'.add (i * 1)).add 0) = some (.int .i64 x) := by
      intro i hi
      have := hel i hi
      rw [List.getElem?_eq_getElem (by omega), Option.bind_eq_some_iff, cells_num] at this
      obtain ⟨cs', hcs, hy⟩ := this
      obtain ⟨p, e0, _, wp⟩ := DataW.trod_int Tryz.underlying2 hy
      have hbk := World.cells?_block hcs (by omega)
      obtain ⟨_, hl2, hq⟩ := World.cells?_some hcs
      subst e0
      refine ⟨p, .of_wf wp, ?_, hq 0 (by omega)⟩
      have : (a'.add (i * 1)).block = a'.block := by unfold Addr.add; split <;> rfl
      rwa [this] at hbk
    obtain ⟨l, hl, hp⟩ := list_of len' each
    subst hl
    refine ⟨some a', cap', l, rfl, ?_, ?_, by omega⟩
    · rcases l with _ | ⟨x0, l⟩
      · exact .inl rfl
      right
      have h0 := hp 0 x0 rfl
      obtain ⟨b, o, sp⟩ := a'
      have hsp : sp = none := by simpa [Addr.add] using World.cell?_spot h0.2.2
      subst hsp
      have hadd : ∀ i, (⟨b, o, none⟩ : Addr).add i = ⟨b, o + i, none⟩ := fun i => by unfold Addr.add; split <;> simp_all
      refine ⟨b, o, rfl, h0.2.1, fun i x hx => ?_⟩
      have := hp i x hx
      rw [hadd] at this
      simpa [Addr.add] using this.2.2
    · intro x hx
      obtain ⟨i, hi⟩ := List.getElem?_of_mem hx
      exact (hp i x hi).1
/-- The value is a Name. -/
def IsNm (v : Value) : Prop := ∃ n : Nm, v = nmV n ∧ I64 n.u ∧ I64 n.m ∧ I64 n.i ∧ I64 n.f ∧ I64 n.c ∧ I64 n.s ∧ I64 n.y
theorem cells_Nm : Tryz.prog.cellsOf 23 = 8 := by kernel_rfl
theorem cells_nmInt : Tryz.prog.cellsOf 2 = 1 := by kernel_rfl
theorem cells_nmBool : Tryz.prog.cellsOf 4 = 1 := by kernel_rfl
theorem list8 {α : Type} {l : List α} (h : l.length = 8) : ∃ x0 x1 x2 x3 x4 x5 x6 x7, l = [x0, x1, x2, x3, x4, x5, x6, x7] := by
  match l, h with
  | [x0, x1, x2, x3, x4, x5, x6, x7], _ => exact ⟨x0, x1, x2, x3, x4, x5, x6, x7, rfl⟩
theorem array8 {α : Type} {cs : Array α} (h : cs.size = 8) : ∃ c0 c1 c2 c3 c4 c5 c6 c7, cs = #[c0, c1, c2, c3, c4, c5, c6, c7] := by
  obtain ⟨l⟩ := cs
  obtain ⟨x0, x1, x2, x3, x4, x5, x6, x7, rfl⟩ := list8 (by simpa using h : l.length = 8)
  exact ⟨x0, x1, x2, x3, x4, x5, x6, x7, rfl⟩
set_option maxRecDepth 100000 in
theorem nm_of_trod {fuel : Nat} {c0 c1 c2 c3 c4 c5 c6 c7 : Value} {x : DataW H × List MemPlace} (hf : DataW.trod enc Tryz.prog w base spare held fuel 23 [c0, c1, c2, c3, c4, c5, c6, c7] = some x) :
    ∃ n : Nm, c0 = .int .i64 n.u ∧ c1 = .int .i64 n.m ∧ c2 = .int .i64 n.i ∧ c3 = .int .i64 n.f ∧ c4 = .int .i64 n.c ∧ c5 = .int .i64 n.s ∧ c6 = .int .i64 n.y ∧ c7 = .bool n.a ∧ I64 n.u ∧ I64 n.m ∧ I64 n.i ∧ I64 n.f ∧ I64 n.c ∧ I64 n.s ∧ I64 n.y := by
  obtain ⟨xs, n, _, _, _, hlen, hall⟩ := DataW.trod_struct Tryz.underlying23 hf
  obtain ⟨y0, y1, y2, y3, y4, y5, y6, y7, rfl⟩ := list8 (by simpa using hlen)
  have h0 := hall 0 _ rfl
  have h1 := hall 1 _ rfl
  have h2 := hall 2 _ rfl
  have h3 := hall 3 _ rfl
  have h4 := hall 4 _ rfl
  have h5 := hall 5 _ rfl
  have h6 := hall 6 _ rfl
  have h7 := hall 7 _ rfl
  clear hall hf hlen
  obtain ⟨a0, e0, _, w0⟩ := DataW.trod_int Tryz.underlying2 h0
  obtain ⟨a1, e1, _, w1⟩ := DataW.trod_int Tryz.underlying2 h1
  obtain ⟨a2, e2, _, w2⟩ := DataW.trod_int Tryz.underlying2 h2
  obtain ⟨a3, e3, _, w3⟩ := DataW.trod_int Tryz.underlying2 h3
  obtain ⟨a4, e4, _, w4⟩ := DataW.trod_int Tryz.underlying2 h4
  obtain ⟨a5, e5, _, w5⟩ := DataW.trod_int Tryz.underlying2 h5
  obtain ⟨a6, e6, _, w6⟩ := DataW.trod_int Tryz.underlying2 h6
  obtain ⟨a7, e7, _⟩ := DataW.trod_bool Tryz.underlying4 h7
  simp [cells_nmInt, cells_nmBool] at e0 e1 e2 e3 e4 e5 e6 e7
  exact ⟨⟨a0, a1, a2, a3, a4, a5, a6, a7⟩, e0, e1, e2, e3, e4, e5, e6, e7, .of_wf w0, .of_wf w1, .of_wf w2, .of_wf w3, .of_wf w4, .of_wf w5, .of_wf w6⟩
set_option maxRecDepth 100000 in
theorem open_Nm (hv : Value.okWide Tryz.prog w r b0 23 v) (h : DataW.Trod enc Tryz.prog w base spare held 23 v d ps) : IsNm v := by
  obtain ⟨cs, rfl, hsz⟩ := okWide_struct Tryz.underlying23 hv
  obtain ⟨c0, c1, c2, c3, c4, c5, c6, c7, rfl⟩ := array8 (hsz.trans cells_Nm)
  obtain ⟨fuel, hf⟩ := h
  obtain ⟨n, rfl, rfl, rfl, rfl, rfl, rfl, rfl, rfl, k⟩ := nm_of_trod hf
  exact ⟨n, rfl, k⟩
/-- The value is a Claim. -/
def IsCl (w : World) (v : Value) : Prop := ∃ (n : Nm) (ad st lf : Int) (a : Option Addr) (cap : Nat) (l : List Int), v = .agg #[.int .i64 n.u, .int .i64 n.m, .int .i64 n.i, .int .i64 n.f, .int .i64 n.c, .int .i64 n.s, .int .i64 n.y, .bool n.a, .int .i64 ad, .int .i64 st, .int .i64 lf, .slice a l.length cap] ∧ I64 ad ∧ I64 st ∧ I64 lf ∧ NumsIn w a l ∧ Nums64 l ∧ l.length ≤ maxLen
theorem cells_Cl : Tryz.prog.cellsOf 26 = 12 := by kernel_rfl
theorem cells_nums : Tryz.prog.cellsOf 24 = 1 := by kernel_rfl
theorem list5 {α : Type} {l : List α} (h : l.length = 5) : ∃ x0 x1 x2 x3 x4, l = [x0, x1, x2, x3, x4] := by
  match l, h with
  | [x0, x1, x2, x3, x4], _ => exact ⟨x0, x1, x2, x3, x4, rfl⟩
theorem list12 {α : Type} {l : List α} (h : l.length = 12) : ∃ x0 x1 x2 x3 x4 x5 x6 x7 x8 x9 y0 y1, l = [x0, x1, x2, x3, x4, x5, x6, x7, x8, x9, y0, y1] := by
  match l, h with
  | [x0, x1, x2, x3, x4, x5, x6, x7, x8, x9, y0, y1], _ => exact ⟨x0, x1, x2, x3, x4, x5, x6, x7, x8, x9, y0, y1, rfl⟩
set_option maxRecDepth 100000 in
theorem open_Cl (hv : Value.okWide Tryz.prog w r b0 26 v) (h : DataW.Trod enc Tryz.prog w base spare held 26 v d ps) : IsCl w v := by
  obtain ⟨cs, rfl, hsz⟩ := okWide_struct Tryz.underlying26 hv
  obtain ⟨ls⟩ := cs
  obtain ⟨c0, c1, c2, c3, c4, c5, c6, c7, c8, c9, c10, c11, rfl⟩ := list12 ((by simpa using hsz : ls.length = _).trans cells_Cl)
  obtain ⟨fuel, hf⟩ := h
  obtain ⟨xs, n, _, _, _, hlen, hall⟩ := DataW.trod_struct Tryz.underlying26 hf
  obtain ⟨y0, y1, y2, y3, y4, rfl⟩ := list5 (by simpa using hlen)
  have h0 := hall 0 _ rfl
  have h1 := hall 1 _ rfl
  have h2 := hall 2 _ rfl
  have h3 := hall 3 _ rfl
  have h4 := hall 4 _ rfl
  clear hall hf hlen
  simp [Value.cells, cells_Nm, cells_num, cells_nums] at h0 h1 h2 h3 h4
  obtain ⟨m, rfl, rfl, rfl, rfl, rfl, rfl, rfl, rfl, _⟩ := nm_of_trod h0
  obtain ⟨ad, e1, _, w1⟩ := DataW.trod_int Tryz.underlying2 h1
  obtain ⟨st, e2, _, w2⟩ := DataW.trod_int Tryz.underlying2 h2
  obtain ⟨lf, e3, _, w3⟩ := DataW.trod_int Tryz.underlying2 h3
  obtain ⟨a, cap, l, e4, k1, k2, k3⟩ := nums_of_trod h4
  simp at e1 e2 e3 e4
  subst e1 e2 e3 e4
  exact ⟨m, ad, st, lf, a, cap, l, rfl, .of_wf w1, .of_wf w2, .of_wf w3, k1, k2, k3⟩
/-- The value is a slice of Cans. -/
def IsCans (w : World) (v : Value) : Prop := ∃ (a : Option Addr) (cap : Nat) (l : List (Int × ByteArray)), v = .slice a l.length cap ∧ CansIn w a l ∧ CansOk l ∧ l.length ≤ maxLen
set_option maxRecDepth 100000 in
theorem cans_of_trod {fuel : Nat} {cs : List Value} {x : DataW H × List MemPlace} (hf : DataW.trod enc Tryz.prog w base spare held fuel 27 cs = some x) :
    ∃ (a : Option Addr) (cap : Nat) (l : List (Int × ByteArray)), cs = [.slice a l.length cap] ∧ CansIn w a l ∧ CansOk l ∧ l.length ≤ maxLen := by
  rcases DataW.trod_slice Tryz.underlying27 hf with ⟨hcs, _⟩ | ⟨a', len', cap', elems, rest, n, _, hcs, _, hb, hl, hm, hlen, hel, _, _⟩
  · subst hcs
    exact ⟨none, 0, [], rfl, .inl rfl, (by intro x hx; cases hx), by simp⟩
  · subst hcs
    have each : ∀ i, i < len' → ∃ x : Int × ByteArray, (I64 x.1 ∧ x.2.size ≤ maxLen) ∧ a'.block < w.heap.size ∧ w.cell? ((a'.add (i * 2)).add 0) = some (.int .i64 x.1) ∧ w.cell? ((a'.add (i * 2)).add 1) = some (.string x.2) := by
      intro i hi
      have := hel i hi
      rw [List.getElem?_eq_getElem (by omega), Option.bind_eq_some_iff, cells_Can] at this
      obtain ⟨cs', hcs, hy⟩ := this
      obtain ⟨y0, y1, n', hx, _, h0, h1⟩ := trod_struct2 Tryz.underlying63 hy
      obtain ⟨p, e0, _, wp⟩ := DataW.trod_int Tryz.underlying2 h0
      obtain ⟨s, e1, _, ws⟩ := DataW.trod_string Tryz.underlying9 h1
      have hq := World.cells?_some hcs
      have hbk := World.cells?_block hcs (by omega)
      obtain ⟨_, hl2, hq⟩ := hq
      match cs', hl2 with
      | [u0, u1], _ =>
        simp [cells_int64, cells_str] at e0 e1
        subst e0 e1
        refine ⟨(p, s), ⟨.of_wf wp, ws⟩, ?_, hq 0 (by omega), hq 1 (by omega)⟩
        have : (a'.add (i * 2)).block = a'.block := by unfold Addr.add; split <;> rfl
        rwa [this] at hbk
    obtain ⟨l, hl, hp⟩ := list_of len' each
    subst hl
    refine ⟨some a', cap', l, rfl, ?_, ?_, by omega⟩
    · rcases l with _ | ⟨x0, l⟩
      · exact .inl rfl
      right
      have h0 := hp 0 x0 rfl
      obtain ⟨b, o, sp⟩ := a'
      have hsp : sp = none := by simpa [Addr.add] using World.cell?_spot h0.2.2.1
      subst hsp
      have hadd : ∀ i, (⟨b, o, none⟩ : Addr).add i = ⟨b, o + i, none⟩ := fun i => by unfold Addr.add; split <;> simp_all
      refine ⟨b, o, rfl, h0.2.1, fun i x hx => ?_⟩
      have := hp i x hx
      rw [hadd] at this
      have h1 : (⟨b, o + i * 2, none⟩ : Addr).add 1 = ⟨b, o + i * 2 + 1, none⟩ := by unfold Addr.add; simp
      rw [h1] at this
      exact ⟨this.2.2.1, this.2.2.2⟩
    · intro x hx
      obtain ⟨i, hi⟩ := List.getElem?_of_mem hx
      exact (hp i x hi).1
set_option maxRecDepth 100000 in
theorem open_Cans (hv : Value.okWide Tryz.prog w r b0 27 v) (h : DataW.Trod enc Tryz.prog w base spare held 27 v d ps) : IsCans w v := by
  obtain ⟨a, len, cap, rfl⟩ := okWide_slice Tryz.underlying27 hv
  obtain ⟨fuel, hf⟩ := h
  obtain ⟨a', cap', l, he, h1, h2, h3⟩ := cans_of_trod hf
  simp [Value.cells] at he
  obtain ⟨rfl, rfl, rfl⟩ := he
  exact ⟨a, cap, l, rfl, h1, h2, h3⟩
/-- The value is a Queue. -/
def IsQueue (w : World) (v : Value) : Prop := ∃ (a : Option Addr) (cap : Nat) (l : List (Int × ByteArray)), v = .agg #[.slice a l.length cap] ∧ CansIn w a l ∧ CansOk l ∧ l.length ≤ maxLen
theorem cells_Queue : Tryz.prog.cellsOf 29 = 1 := by kernel_rfl
theorem cells_CanS : Tryz.prog.cellsOf 27 = 1 := by kernel_rfl
set_option maxRecDepth 100000 in
theorem open_Queue (hv : Value.okWide Tryz.prog w r b0 29 v) (h : DataW.Trod enc Tryz.prog w base spare held 29 v d ps) : IsQueue w v := by
  obtain ⟨cs, rfl, hsz⟩ := okWide_struct Tryz.underlying29 hv
  obtain ⟨c0, rfl⟩ : ∃ c0, cs = #[c0] := by
    have h1 := hsz.trans cells_Queue
    refine ⟨cs[0], ?_⟩
    apply Array.ext
    · simp [h1]
    · intro i h2 h3
      have : i = 0 := by simp at h3; omega
      subst this
      rfl
  obtain ⟨fuel, hf⟩ := h
  obtain ⟨y0, n, hx, _, h0⟩ := trod_struct1 Tryz.underlying29 hf
  obtain ⟨a, cap, l, he, h1, h2, h3⟩ := cans_of_trod h0
  simp [Value.cells, cells_CanS] at he
  subst he
  exact ⟨a, cap, l, rfl, h1, h2, h3⟩
end
end Go.Proofs.YtioldepgoodipaaGreat
