/- Drawn Queues: what the draw leaves. Nothing that was there is written, but the source. -/
import Derived.Test.YtmfnbbjhaolhgaaDrawList
import Derived.Test.YtmfnbbjhaolhgaaConcat
import Derived.Deep.AppendLies
namespace Go.Proofs.Ytmfnbbjhaolhgaa
open Go.RowKit Go.Joins
set_option linter.unusedVariables false

theorem canCells_eq (l : List (Int × ByteArray)) : canCells l = ccells l := by
  induction l with
  | nil => rfl
  | cons x l ih => simp [canCells, ccells, ih]
theorem owns_base {w : World} {base base' : Nat} {e : TypeId} {s : Nat} {v : Value} {n : Nat} {xs : List Value} (h : w.ownsRow base e s v n xs) (hb : base' ≤ base) : w.ownsRow base' e s v n xs := by
  refine ⟨h.1, ?_⟩
  rcases h.2 with h2 | ⟨g, cap, cur, hv, hg, r⟩
  · exact .inl h2
  · exact .inr ⟨g, cap, cur, hv, Nat.le_trans hb hg, r⟩
theorem RowAt.put1 {W : World} {R : Nat} {v : Value} (h : RowAt W R [v]) (u : Value) : RowAt (W.setCell ⟨R, 0, none⟩ u) R [u] :=
  ⟨by simpa [World.setCell] using h.lt, fun j x hx => by
    match j, hx with
    | 0, hx =>
      obtain rfl : u = x := by simpa using hx
      exact World.cell?_setCell_same _ _ _ (h.get 0 _ rfl)
    | (j + 1), hx => simp at hx, fun j => by rw [World.frozen?_setCell]; exact h.free j⟩
theorem RowAt.far {u u' : World} {S R : Nat} {vs : List Value} (h : RowAt u R vs) (hg : u.grownBy u' (some S)) (hne : R ≠ S) : RowAt u' R vs :=
  h.out (lo := S) (hi := S + 1) (Out.of_grown hg (fun k hk => by have := Option.some.inj hk; omega)) (by omega)
theorem CansOk.append {l m : List (Int × ByteArray)} (h : CansOk l) (k : CansOk m) : CansOk (l ++ m) := fun x hx => by
  rcases List.mem_append.1 hx with hx | hx
  · exact h x hx
  · exact k x hx
/-- Block V is a row of that type. -/
def Typed (W : World) (V : Nat) (T : TypeId) : Prop := ∃ cs, W.heap[V]? = some (.cells cs T (0, 0))
theorem Typed.new (W : World) (cs : Array Value) (T : TypeId) : Typed (W.alloc (.cells cs T)) W.heap.size T := ⟨cs, heap_alloc_new W _⟩
theorem Typed.lt {W : World} {V : Nat} {T : TypeId} (h : Typed W V T) : V < W.heap.size := by
  obtain ⟨cs, h⟩ := h
  exact (Array.getElem?_eq_some_iff.1 h).1
theorem Typed.far {W W' : World} {V S : Nat} {T : TypeId} (h : Typed W V T) (hg : W.grownBy W' (some S)) (hne : V ≠ S) : Typed W' V T := by
  have hl := h.lt
  obtain ⟨cs, h⟩ := h
  exact ⟨cs, (hg.block V hl (fun e => hne (Option.some.inj e))).trans h⟩
theorem Typed.alloc {W : World} {V : Nat} {T : TypeId} (h : Typed W V T) (o : Obj) : Typed (W.alloc o) V T := by
  have hl := h.lt
  obtain ⟨cs, h⟩ := h
  exact ⟨cs, (Below.heap_alloc W o V hl).trans h⟩
theorem Typed.appended {W W' : World} {V : Nat} {T T' : TypeId} {base n : Nat} {v : Value} {xs : List Value} (h : Typed W V T) (ho : W.ownsRow base T' 2 v n xs) (hT : T ≠ T') (hg : W.grownBy W' v.ownBlock) : Typed W' V T := by
  have hl := h.lt
  obtain ⟨cs, h⟩ := h
  have hne := owns_ne ho h hT
  exact ⟨cs, (hg.block V hl (fun e => hne e.symm)).trans h⟩
theorem Typed.set {W : World} {V : Nat} {T : TypeId} (h : Typed W V T) (p : Addr) (u : Value) : Typed (W.setCell p u) V T := by
  obtain ⟨cs, h⟩ := h
  by_cases hp : V = p.block
  · subst hp
    unfold Typed World.setCell
    simp only [Array.getElem?_modify, h]
    simp
  · exact ⟨cs, (Below.heap_setCell W p u V hp).trans h⟩
theorem Typed.ne {W : World} {V : Nat} {T T' : TypeId} {base n : Nat} {v : Value} {xs : List Value} (h : Typed W V T) (ho : W.ownsRow base T' 2 v n xs) (hT : T ≠ T') : v.ownBlock ≠ some V := by
  obtain ⟨cs, h⟩ := h
  exact owns_ne ho h hT
theorem RowAt.grown {W W' : World} {V : Nat} {vs : List Value} {row : Option Nat} (h : RowAt W V vs) (hg : W.grownBy W' row) (hne : row ≠ some V) : RowAt W' V vs :=
  have hb := hg.block V h.lt (fun e => hne e.symm)
  ⟨Nat.lt_of_lt_of_le h.lt hg.size, fun j u hu => (World.cell?_of_block (w := W) (a := ⟨V, j, none⟩) hb).trans (h.get j u hu), fun j => (World.frozen?_of_block (w := W) (a := ⟨V, j, none⟩) hb).trans (h.free j)⟩
/-- How many elements a slice has. -/
def lenOf : Option Value → Nat
  | some (.slice _ n _) => n
  | _ => 0
/-- How many elements the slice in block V has. -/
def lenAt (V : Nat) (W : World) : Nat := lenOf (W.cell? ⟨V, 0, none⟩)
theorem lenAt_eq {V : Nat} {W : World} {a : Option Addr} {n c : Nat} (h : W.cell? ⟨V, 0, none⟩ = some (.slice a n c)) : lenAt V W = n := by
  unfold lenAt
  rw [h]
  rfl
section
variable {w u u' : World} {S : Nat} {a : Option Addr} {len cap : Nat} {zs : List Int}
theorem cansIn_one (W : World) (n : Int) (s : ByteArray) (T : TypeId) : CansIn (W.alloc (.cells #[.int .i64 n, .string s] T)) (some ⟨W.heap.size, 0, none⟩) [(n, s)] :=
  .inr ⟨W.heap.size, 0, rfl, by simp, fun i x hx => by
    have hr := RowAt.new W #[.int .i64 n, .string s] T
    match i, hx with
    | 0, hx =>
      obtain rfl : (n, s) = x := by simpa using hx
      exact ⟨hr.get 0 _ rfl, hr.get 1 _ rfl⟩
    | (i + 1), hx => simp at hx⟩
theorem sv_first {V S : Nat} {wr : World} {v : Value} (h : wr.cell? ⟨V, 0, none⟩ = some v) : wr.drew.cell? ⟨V, 0, none⟩ = some v ∧ wr.grownBy wr.drew (some S) := ⟨h, rfl, rfl, rfl, Nat.le_refl _, fun _ _ _ => rfl⟩
theorem sv_call {V S : Nat} {wr W W' : World} {v : Value} (hV : V < wr.heap.size) (hne : V ≠ S) (h : W.cell? ⟨V, 0, none⟩ = some v ∧ wr.grownBy W (some S)) (hg : W.grownBy W' (some S)) : W'.cell? ⟨V, 0, none⟩ = some v ∧ wr.grownBy W' (some S) :=
  ⟨(far_cell hg (Nat.lt_of_lt_of_le hV h.2.size) hne 0).1.trans h.1, grownBy_trans h.2 hg⟩
/-- A drawn Queue. -/
def NextQueue (w : World) (S : Nat) (a : Option Addr) (len cap : Nat) (zs : List Int) (u : World) (e : Ending) (u' : World) : Prop :=
  ∃ (a' : Option Addr) (c : Nat) (l : List (Int × ByteArray)), e = .returned (.agg #[.slice a' l.length c]) ∧ u'.ownsRow u.heap.size 29 2 (.slice a' l.length c) l.length (ccells l) ∧ CansOk l ∧ l.length ≤ 17 ∧ Dr w S a len cap zs u' ∧ u.grownBy u' (some S)
set_option maxRecDepth 100000 in
set_option maxHeartbeats 4000000 in
theorem queue_next (h : Dr w S a len cap zs u) : Calls Try.prog 34 #[.pointer (some ⟨S, 0, none⟩)] u (NextQueue w S a len cap zs u) := by
  obtain ⟨i0, hi, hz0, hz1, hz2⟩ := info_parts DrawList.info
  have HI := Lib.hid hi
  have hS := h.src.lt
  have hlo := h.lo
  have neR : u.heap.size ≠ S := by omega
  have hwu := h.below.size
  have HR0 := Lib.hid (RowAt.new u #[.slice none 0 0] 25)
  clear hi
  go_enter Try.func34, Try.ntmps34
  go_wp2_with fail
  refine (cans_next_own (h.alloc _)).mono ?_
  rintro e u1 ⟨v1, l1, rfl, ho1, hk1, hl1, hD1, g1⟩
  obtain ⟨a1, c1, rfl⟩ := owns_slice ho1
  have HO1 := Lib.hid ho1
  have HK1 := Lib.hid hk1
  have HR1 := Lib.hid (HR0.out.far g1 neR)
  have HG1 := Lib.hid (grownBy_trans (World.grownBy_alloc u _ _) g1)
  clear ho1 hk1 g1 HR0
  go_wp2_with fail
  refine (cans_next_own hD1).mono ?_
  rintro e u2 ⟨v2, l2, rfl, ho2, hk2, hl2, hD2, g2⟩
  obtain ⟨a2, c2, hv2, hin2⟩ := CansIn.of_row ho2
  subst hv2
  have HX2 := Lib.hid hin2
  have HK2 := Lib.hid (HK1.out.append hk2)
  have HR2 := Lib.hid (HR1.out.far g2 neR)
  have HG2 := Lib.hid (grownBy_trans HG1.out g2)
  have ho12 := ownsRow_far HO1.out g2 (by simp; omega)
  simp only [World.size_alloc, canCells_eq] at ho12
  have HO2 := Lib.hid ho12
  have hsz2 : u.heap.size + 1 ≤ u2.heap.size := by have := HR2.out.lt; omega
  clear ho2 hk2 g2 HR1 HG1 HK1 hin2 ho12 HO1
  go_wp2_with (at_builtin; (refine wpList_append_cans rfl (.tmp 5) (.tmp 7) 23 rfl (u.heap.size + 1) 29 i0 _ 24 Try.underlying23 HI.out hz0 hz1 hz2 rfl _ l1.length _ rfl HO2.out a2 c2 l2 rfl HX2.out (by unfold maxLen; omega) (by omega) hsz2 ?_; intro v3 u3 hown3 hgrow3; obtain ⟨a3, c3, rfl⟩ := owns_slice hown3))
  have hO3 : Out (u.heap.size + 1) u2.heap.size u2 u3 := Out.of_grown hgrow3 (fun k hk => World.ownsRow.lt HO2.out k hk)
  have hD3 := (hD2.appended HO2.out hgrow3 (by omega)).alloc (.cells #[.slice a3 (l1.length + l2.length) c3] 25)
  have HG3 := Lib.hid (grownBy_alloc (grownBy_app HG2.out HO2.out hgrow3 (by omega)) (.cells #[.slice a3 (l1.length + l2.length) c3] 25))
  have HR3 := Lib.hid ((HR2.out.out hO3 (.inl (by omega))).alloc (.cells #[.slice a3 (l1.length + l2.length) c3] 25))
  have HV3 := Lib.hid (RowAt.new u3 #[.slice a3 (l1.length + l2.length) c3] 25)
  have HT3 := Lib.hid (Typed.new u3 #[.slice a3 (l1.length + l2.length) c3] 25)
  have ho3 := World.ownsRow.alloc hown3 (.cells #[.slice a3 (l1.length + l2.length) c3] 25)
  rw [← ccells_append] at ho3
  have HO3 := Lib.hid ho3
  have hsz3 : u2.heap.size ≤ u3.heap.size := hO3.size
  have neV : u3.heap.size ≠ S := by omega
  have hVlo : u.heap.size + 1 ≤ u3.heap.size := by omega
  clear hgrow3 hown3 hO3 ho3 HO2 HR2 HG2 HX2 hsz2
  go_wp2_with fail
  refine (one_next hD3 20 (by omega)).mono ?_
  rintro e u4 ⟨o, rfl, hD4, g4⟩
  have HR4 := Lib.hid (HR3.out.far g4 neR)
  have HV4 := Lib.hid (HV3.out.far g4 neV)
  have HT4 := Lib.hid (HT3.out.far g4 neV)
  have HO4 := Lib.hid (ownsRow_far HO3.out g4 (by omega))
  have HG4 := Lib.hid (grownBy_trans HG3.out g4)
  obtain ⟨m, hm⟩ : ∃ m, l1 ++ l2 = m := ⟨_, rfl⟩
  have hm8 : m.length ≤ 8 := by rw [← hm]; simp; omega
  rw [← List.length_append] at HV4 HO4
  rw [hm] at HK2 HO4 HV4
  clear g4 HR3 HV3 HT3 HO3 HG3 hD3 hm
  generalize u3.heap.size = V at *
  cases o
  · have v0 := HV4.out.get 0 _ rfl
    have r0 := HR4.out.get 0 _ rfl
    have r1 := HR4.out.free
    go_wp2_with fail
    exact bodyPost_ret (v := .agg #[.slice a3 m.length c3]) (by simp [results, Try.results34, go_sem, r0]) rfl
      ⟨a3, c3, m, rfl, owns_base (owns_set_lt HO4.out (p := ⟨u.heap.size, 0, none⟩) (Nat.lt_succ_self _) _) (Nat.le_succ _), HK2.out, by omega, hD4.set (p := ⟨u.heap.size, 0, none⟩) neR hwu _, grownBy_new HG4.out (p := ⟨u.heap.size, 0, none⟩) (Nat.le_refl _) _⟩
  · go_wp2_with fail
    go_loopw [12] (fun _ wr => ∃ (a' : Option Addr) (c' : Nat) (m' : List (Int × ByteArray)), RowAt wr V [.slice a' m'.length c'] ∧ Typed wr V 25 ∧ wr.ownsRow (u.heap.size + 1) 29 2 (.slice a' m'.length c') m'.length (ccells m') ∧ CansOk m' ∧ m'.length ≤ 17 ∧ Dr w S a len cap zs wr ∧ u.grownBy wr (some S) ∧ RowAt wr u.heap.size [.slice none 0 0]) (fun _ wr => 17 - lenAt V wr)
    case atStart => exact ⟨a3, c3, m, HV4.out, HT4.out, HO4.out, HK2.out, by omega, hD4, HG4.out, HR4.out⟩
    case round =>
      obtain ⟨a', c', m', hv, ht, ho, hk, hm, hD, hg, hr⟩ := hrel
      have v0 := hv.get 0 _ rfl
      have lV := hv.lt
      have HLen := Lib.hid (lenAt_eq v0)
      have HV := Lib.hid hv
      have HT := Lib.hid ht
      have HO := Lib.hid ho
      have HK := Lib.hid hk
      have HG := Lib.hid hg
      have HR := Lib.hid hr
      clear hv ht ho hk hg hr
      go_wp2_with fail
      go_region_held3 (fun W => W.cell? ⟨V, 0, none⟩ = some (.slice a' m'.length c') ∧ wr.grownBy W (some S))
        (first | assumption | (with_reducible exact sv_first v0) | (with_reducible exact sv_call lV neV (by assumption) (by assumption)))
        ((go_at_call 45; (with_reducible refine (n_next hD.drew 2 (by decide)).mono ?_); rintro e w5 ⟨x, rfl, x0, xm, hD5, g5⟩))
      have hx1 : x ≤ 1 := by omega
      have g5' := grownBy_trans (sv_first v0).2 g5
      have HV5 := Lib.hid (HV.out.far g5' neV)
      have HT5 := Lib.hid (HT.out.far g5' neV)
      have HO5 := Lib.hid (ownsRow_far HO.out g5' (by omega))
      have HR5 := Lib.hid (HR.out.far g5' neR)
      have HG5 := Lib.hid (grownBy_trans HG.out g5')
      have hwx : IntKind.i64.wrap (16 + x) = 16 + x := IntWalk.i64_in _ (by omega)
      obtain ⟨y, hy⟩ : ∃ y, IntKind.i64.wrap (16 + x) = y := ⟨_, rfl⟩
      have hy1 : y ≤ 17 := by omega
      rw [hy]
      clear hwx hy xm g5 g5' HV HT HO HR HG hD x0 hx1
      by_cases hlt : (m'.length : Int) < y
      · have hd : decide ((m'.length : Int) < y) = true := decide_eq_true hlt
        have v5 := HV5.out.get 0 _ rfl
        have v6 := HV5.out.free
        have l5 := HV5.out.lt
        have hm16 : m'.length + 1 ≤ 17 := by omega
        have hD5' := hD5.drew
        have HO5' := Lib.hid (owns_below HO5.out (Below.refl w5.heap.size w5).drew)
        have hsz5 : u.heap.size + 1 ≤ w5.heap.size := by omega
        go_wp2_with fail
        go_region_law (first
          | (refine step_append_cans (by rfl) _ _ 23 (by rfl) (u.heap.size + 1) 29 i0 _ 24 Try.underlying23 HI.out hz0 hz1 hz2 rfl (.slice a' m'.length c') m'.length (ccells m') (by rfl) HO7.out (some ⟨w6.heap.size, 0, none⟩) 1 [(n, ⟨#[]⟩)] (by rfl) HX7.out (by show m'.length + 1 ≤ _; unfold maxLen; omega) (by show (m'.length + 1) * 24 ≤ _; omega) hs7 ?_; intro v8 w8 hown8 hg8; obtain ⟨a8, c8, rfl⟩ := owns_slice hown8; have HV8 := HV7.out.grown hg8 HN7.out; have y0 := HV8.get 0 _ rfl; have y1 := HV8.free)
          | (go_simp; go_at_call 45; refine (n_next hD5' 3 (by decide)).mono ?_; rintro e w6 ⟨n, rfl, n0, nm, hD6, g6⟩; have HV6 := HV5.out.far (grownBy_trans (sv_first v5).2 g6) neV; have HO7 := Lib.hid (World.ownsRow.alloc (ownsRow_far HO5'.out g6 (by omega)) (.cells #[.int .i64 n, .string ⟨#[]⟩] 29)); have HX7 := Lib.hid (cansIn_one w6 n ⟨#[]⟩ 29); have hs7 : u.heap.size + 1 ≤ (w6.alloc (.cells #[.int .i64 n, .string ⟨#[]⟩] 29)).heap.size := (by have := g6.size; simp at *; omega); have x6 := HV6.get 0 _ rfl; have x7 := HV6.free; have x8 := HV6.lt; have HV7 := Lib.hid (HV6.alloc (.cells #[.int .i64 n, .string ⟨#[]⟩] 29)); have HT7 := Lib.hid ((HT5.out.far (grownBy_trans (sv_first v5).2 g6) neV).alloc (.cells #[.int .i64 n, .string ⟨#[]⟩] 29)); have HN7 := Lib.hid (HT7.out.ne HO7.out (by decide)); have HD7 := Lib.hid (hD6.alloc (.cells #[.int .i64 n, .string ⟨#[]⟩] 29)); have HG7 := Lib.hid (grownBy_alloc (grownBy_trans HG5.out (grownBy_trans (sv_first v5).2 g6)) (.cells #[.int .i64 n, .string ⟨#[]⟩] 29)); have HR7 := Lib.hid ((HR5.out.far (grownBy_trans (sv_first v5).2 g6) neR).alloc (.cells #[.int .i64 n, .string ⟨#[]⟩] 29)); clear HV6))
        all_goals
          have HV9 := Lib.hid (HV8.put1 (.slice a8 (m'.length + 1) c8))
          have HT9 := Lib.hid ((HT7.out.appended HO7.out (by decide) hg8).set ⟨V, 0, none⟩ (.slice a8 (m'.length + 1) c8))
          have HN8 := (HT7.out.appended HO7.out (by decide) hg8).ne hown8 (by decide)
          have HO9 := Lib.hid (owns_set hown8 (p := ⟨V, 0, none⟩) HN8 (.slice a8 (m'.length + 1) c8))
          have HK9 := Lib.hid (HK.out.append (m := [(n, ⟨#[]⟩)]) (fun z hz => by
            simp at hz
            subst hz
            exact ⟨⟨by omega, by omega⟩, Nat.zero_le _⟩))
          have HD9 := Lib.hid ((HD7.out.appended HO7.out hg8 (by omega)).set (p := ⟨V, 0, none⟩) neV (by show w.heap.size ≤ V; omega) (.slice a8 (m'.length + 1) c8))
          have HG9 := Lib.hid (grownBy_new (grownBy_app HG7.out HO7.out hg8 (by omega)) (p := ⟨V, 0, none⟩) (by show u.heap.size ≤ V; omega) (.slice a8 (m'.length + 1) c8))
          have HR9 := Lib.hid ((HR7.out.out (Out.of_grown hg8 (fun k hk => World.ownsRow.lt HO7.out k hk)) (.inl (Nat.lt_succ_self _))).setOther (p := ⟨V, 0, none⟩) (show V ≠ u.heap.size by omega) (.slice a8 (m'.length + 1) c8))
          have HL9 := Lib.hid (lenAt_eq (HV9.out.get 0 _ rfl))
          clear HV8 hown8 hg8 HN8 x6 x7 x8 v5 v6 y0 y1 HO7 HX7 HV7 HT7 HN7 HD7 HG7 HR7 hD6 g6 nm
          go_wp2
          go_roundw
          case rel => exact ⟨a8, c8, m' ++ [(n, ⟨#[]⟩)], by simpa using HV9.out, HT9.out, by rw [List.length_append, ccells_append]; exact HO9.out, HK9.out, by simp; omega, HD9.out, HG9.out, HR9.out⟩
          case measure => rw [HL9.out, HLen.out]; omega
      · have hd : decide ((m'.length : Int) < y) = false := decide_eq_false hlt
        have v5 := HV5.out.get 0 _ rfl
        have r0 := HR5.out.get 0 _ rfl
        have r1 := HR5.out.free
        go_wp2_with fail
        exact bodyPost_ret (v := .agg #[.slice a' m'.length c']) (by simp [results, Try.results34, go_sem, r0]) rfl
          ⟨a', c', m', rfl, owns_base (owns_set_lt HO5.out (p := ⟨u.heap.size, 0, none⟩) (Nat.lt_succ_self _) _) (Nat.le_succ _), HK.out, by omega, hD5.set (p := ⟨u.heap.size, 0, none⟩) neR hwu _, grownBy_new HG5.out (p := ⟨u.heap.size, 0, none⟩) (Nat.le_refl _) _⟩
end
end Go.Proofs.Ytmfnbbjhaolhgaa
