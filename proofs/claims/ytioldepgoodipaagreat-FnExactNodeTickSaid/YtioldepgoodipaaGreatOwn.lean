/- Small laws on rows of bytes that a call itself makes: kept, appended to, turned into a string. -/
import Derived.Test.YtioldepgoodipaaGreatRows
import Derived.WalkKit
import Derived.WalkSpells
import Derived.WalkLawsBesides
import Derived.Lib.Hide
import Derived.Lib.BufferWrite
import Derived.Laws.CopyOwn
namespace Go.Proofs.YtioldepgoodipaaGreat
open Go.RowKit
set_option linter.unusedVariables false

/-- The byte at a place of a text, as a number. -/
def byteAt (s : ByteArray) (j : Nat) : Int := ((s.data.toList[j]?.getD 0).toNat : Int)
theorem byteAt_get (s : ByteArray) (j : Nat) (h : j < s.size) : (s[j].toNat : Int) = byteAt s j := by
  unfold byteAt
  rw [List.getElem?_eq_getElem (by simpa using h)]
  rfl
theorem byteAt_lo (s : ByteArray) (j : Nat) : 0 ≤ byteAt s j := by unfold byteAt; omega
theorem byteAt_hi (s : ByteArray) (j : Nat) : byteAt s j ≤ 255 := by
  unfold byteAt
  have := (s.data.toList[j]?.getD 0).toNat_lt
  omega

/-- The cells of some bytes. -/
def bcells (l : List UInt8) : List Value := l.map fun b => Value.int .u8 (b.toNat : Int)
theorem bcells_length (l : List UInt8) : (bcells l).length = l.length := by simp [bcells]
theorem bcells_append (l m : List UInt8) : bcells (l ++ m) = bcells l ++ bcells m := by simp [bcells]
theorem bcells_one (l : List UInt8) : ∀ u ∈ bcells l, u.oneCell' = true := by
  intro u hu
  simp [bcells] at hu
  obtain ⟨b, _, rfl⟩ := hu
  rfl

theorem cell_new1 (w : World) (v : Value) (T : TypeId) : (w.alloc (.cells #[v] T)).cell? ⟨w.heap.size, 0, none⟩ = some v := cell_one_new w v T 0 v rfl

/-- The slice v owns a row of the bytes l. -/
def OwnsB (w : World) (base : Nat) (T : TypeId) (v : Value) (l : List UInt8) : Prop := w.ownsRow base T 1 v l.length (bcells l)

theorem OwnsB.nil (w : World) (base : Nat) (T : TypeId) : OwnsB w base T (.slice none 0 0) [] := World.ownsRow_nil _ _ _ _
theorem OwnsB.alloc {w : World} {base : Nat} {T : TypeId} {v : Value} {l : List UInt8} (h : OwnsB w base T v l) (o : Obj) : OwnsB (w.alloc o) base T v l := World.ownsRow.alloc h o
theorem OwnsB.made (w : World) (base : Nat) (T : TypeId) (hb : base ≤ w.heap.size) : OwnsB (w.alloc (.cells #[] T)) base T (.slice (some ⟨w.heap.size, 0, none⟩) 0 0) [] :=
  World.ownsRow_lit w #[] 0 hb (by unfold maxLen; omega) rfl
theorem OwnsB.below {w w' : World} {base B : Nat} {T : TypeId} {v : Value} {l : List UInt8} (h : OwnsB w base T v l) (hg : w.grownBy w' v.ownBlock) {W : World} (hB : Below B W w) (hb : B ≤ base) (hs : B ≤ w.heap.size) : Below B W w' :=
  hB.grown hg hs fun k hk => Nat.le_trans hb (World.ownsRow.lt h k hk).1

theorem OwnsB.conv {P : Program} {w : World} {base : Nat} {T : TypeId} {v : Value} {l : List UInt8} (h : OwnsB w base T v l) (src dst : TypeId) (hs : P.underlying src = some (.slice T)) (he : P.underlying T = some (.int .u8)) (hd : P.underlying dst = some .string) :
    (convert src dst v).run P w = .ok (.string ⟨l.toArray⟩) w := by
  unfold OwnsB at h
  have h' := h
  rcases h'.2 with ⟨hv, hn⟩ | ⟨g, cap, cur, hv, hb, hh, hcap, hm, hsz, ht⟩
  · obtain rfl : l = [] := by simpa using hn
    subst hv
    rw [run_convert_bytes_string w src dst T none 0 0 hs he hd]
    simp [Conv.bytesToString]
    rfl
  · subst hv
    refine run_convert_bytes_back w src dst T _ cap l hs he hd fun j hj => ?_
    have := World.ownsRow.cells h (g := g) rfl j (.int .u8 (l[j].toNat : Int)) (by simp [bcells, List.getElem?_map, List.getElem?_eq_getElem hj])
    exact this

/-- 'string(b[:n])' where the first cells of block g are the bytes l. -/
theorem conv_row {P : Program} {w : World} {g : Nat} {cs : Array Value} {U T : TypeId} {l : List UInt8} (h : w.heap[g]? = some (.cells cs U (0, 0))) (n : Nat) (hn : n = l.length) (hc : cs.toList.take n = bcells l) (src dst : TypeId)
    (hs : P.underlying src = some (.slice T)) (he : P.underlying T = some (.int .u8)) (hd : P.underlying dst = some .string) (cap : Nat) :
    (convert src dst (.slice (some ⟨g, 0, none⟩) n cap)).run P w = .ok (.string ⟨l.toArray⟩) w := by
  subst hn
  refine run_convert_bytes_back w src dst T _ cap l hs he hd fun j hj => ?_
  have e : (⟨g, 0, none⟩ : Addr).add j = ⟨g, j, none⟩ := by unfold Addr.add; split <;> simp_all
  rw [e, cell_of_row w g j cs U (0, 0) h]
  have h1 : (cs.toList.take l.length)[j]? = (bcells l)[j]? := by rw [hc]
  rw [List.getElem?_take, if_pos hj] at h1
  simpa [bcells, List.getElem?_map, List.getElem?_eq_getElem hj] using h1

/-- 'a[:n]' of a local array. -/
theorem slice_array_h {P : Program} (w : World) (t e : TypeId) (m : Nat) (ht : P.underlying t = some (.array m e)) (hs : ∀ W : World, (sizeOf e).run P W = .ok 1 W) (g n : Nat) (h0 : 0 < n) (hn : n ≤ m) :
    (Instr.sliceAt t (.pointer (some ⟨g, 0, none⟩)) none (some (.int .i64 (n : Int))) none).run P w = .ok (.slice (some ⟨g, 0, none⟩) n m) w := by
  have he : P.elem t = e := by simp [Program.elem, ht]
  have hl : P.arrayLen t = m := by simp [Program.arrayLen, ht]
  rw [run_sliceAt_array_h w t _ (by rw [hl, he]; exact ht) .i64 n (by omega) (by rw [hl]; omega), he, hl, hs w]
  simp [slicedAt, Addr.add]
  

/-- A cell that is written twice holds what was written last. -/
theorem setCell_setCell (W : World) (a : Addr) (x y : Value) : (W.setCell a x).setCell a y = W.setCell a y := by
  unfold World.setCell
  simp only
  congr 1
  apply Array.ext
  · simp
  · intro i h1 h2
    simp only [Array.getElem_modify]
    by_cases h : a.block = i
    · subst h
      simp only [if_true]
      have hb : a.block < W.heap.size := by simpa using h1
      cases hq : W.heap[a.block]'hb <;> simp
      split <;> simp
    · simp [h]

/-- The next cell of a row is written: the first cells are the bytes and the new one. -/
theorem take_set {cs : Array Value} {l : List UInt8} {k : Nat} (hk : k < cs.size) (h : cs.toList.take k = bcells l) (b : UInt8) :
    (cs.setIfInBounds k (.int .u8 (b.toNat : Int))).toList.take (k + 1) = bcells (l ++ [b]) := by
  rw [bcells_append, ← h]
  rw [List.take_succ_eq_append_getElem (by simpa using hk)]
  simp [bcells, List.take_set]
  exact List.set_eq_of_length_le (by simp; omega)

theorem bcell {W w1 : World} (hb : Below W.heap.size W w1) : (∀ b o, b < W.heap.size → w1.cell? ⟨b, o, none⟩ = W.cell? ⟨b, o, none⟩) ∧ (∀ b o, b < W.heap.size → w1.frozen? ⟨b, o, none⟩ = W.frozen? ⟨b, o, none⟩) :=
  ⟨fun b o h => hb.cell (p := ⟨b, o, none⟩) h, fun b o h => hb.frozen (p := ⟨b, o, none⟩) h⟩
/-- A text, a place and a code, as a value. -/
def textOut (l : List UInt8) (a c : Int) : Value := .agg #[.string ⟨l.toArray⟩, .int .i64 a, .int .i64 c]
theorem extract_take (s : ByteArray) (k : Nat) : s.extract 0 k = ⟨(s.data.toList.take k).toArray⟩ := by
  apply ByteArray.ext
  simp only [ByteArray.data_extract]
  apply Array.toList_inj.1
  simp
theorem textOut_take (s : ByteArray) (k : Nat) (a c : Int) : Value.agg #[.string (s.extract 0 k), .int .i64 a, .int .i64 c] = textOut (s.data.toList.take k) a c := by
  rw [extract_take]
  rfl

theorem mk_append (l : List UInt8) (s : ByteArray) : (ByteArray.mk l.toArray) ++ s = ⟨(l ++ s.data.toList).toArray⟩ := by
  have e : s = ByteArray.mk s.data.toList.toArray := by simp
  rw [e, ByteArray.mk_append_mk]

section
variable {P : Program} {w : World}
/-- append of one byte to a row of the call's own. -/
theorem wpList_append_byte {ops : Array Oper} {rest : List Oper} {o : Oper} {a : Act} {Q : Exit → Act → World → Prop} (hgd : o.guard = none) (s x : Operand) (t : TypeId)
    (ho : o.op = .call { callee := .builtin .append, args := #[s, x], argTypes := #[t, t] })
    (T : TypeId) (i : TypeInfo) (ht : P.underlying t = some (.slice T)) (hi : P.info? T = some i) (hz : i.zero = some (.int .u8 0)) (hsize : i.size = 1) (hby : i.bytes = 1)
    (base : Nat) (v : Value) (l : List UInt8) (hs : a.eval s = v) (hown : OwnsB w base T v l) (b : Int) (hb0 : 0 ≤ b) (hb1 : b ≤ 255)
    (ad : Addr) (hx : a.eval x = .slice (some ad) 1 1) (hc : w.cell? ad = some (.int .u8 b)) (hl : l.length + 1 ≤ 140737488355328) (hbase : base ≤ w.heap.size)
    (h : ∀ v' w', OwnsB w' base T v' (l ++ [UInt8.ofNat b.toNat]) → w.grownBy w' v.ownBlock → wpList P ops Q rest (a.put o.dst v') w') : wpList P ops Q (o :: rest) a w := by
  have e : (UInt8.ofNat b.toNat).toNat = b.toNat := by simp; omega
  refine wpList_append_own w hgd s x t ho base T i (.int .u8 0) 1 1 ht hi hz hsize hby rfl (by decide) v l.length (bcells l) hs hown ad 1 1 [.int .u8 b] hx rfl ?_ ?_ (by unfold maxLen; omega) (by omega) hbase fun v' w' h1 h2 _ => h v' w' ?_ h2
  · intro j u hj
    match j, hj with
    | 0, hj =>
      simp at hj
      subst hj
      have := World.cell?_spot hc
      obtain ⟨p, q, r⟩ := ad
      simp at this
      subst this
      simpa [Addr.add] using hc
  · intro u hu
    simp at hu
    subst hu
    rfl
  · unfold OwnsB
    rw [bcells_append]
    have : bcells [UInt8.ofNat b.toNat] = [.int .u8 b] := by
      simp only [bcells, List.map_cons, List.map_nil, e]
      rw [show ((b.toNat : Nat) : Int) = b by omega]
    rw [this]
    simpa using h1

theorem own_row {w : World} {base : Nat} {e : TypeId} {g n : Nat} {xs : List Value} (h : w.ownsRow base e 1 (.slice (some ⟨g, 0, none⟩) n n) n xs) :
    ∃ cur : List Value, w.heap[g]? = some (.cells cur.toArray e (0, 0)) ∧ cur.length = n := by
  rcases h.2 with ⟨h', _⟩ | ⟨g', cap', cur, h', _, hg, _, _, hc, _⟩
  · simp at h'
  · simp only [Value.slice.injEq, Option.some.injEq, Addr.mk.injEq, and_true, true_and] at h'
    obtain ⟨rfl, rfl⟩ := h'
    exact ⟨cur.toList, by simpa using hg, by simpa using hc⟩

/-- 'copy(dst, s)' of a text into a row of the call's own: the row behind it is 'splice'. -/
theorem wpList_copy_str {ops : Array Oper} {rest : List Oper} {o : Oper} {a : Act} {Q : Exit → Act → World → Prop} (hgd : o.guard = none) (d x : Operand) (dT sT : TypeId)
    (ho : o.op = .call { callee := .builtin .copy, args := #[d, x], argTypes := #[dT, sT] }) (elem : TypeId) (hu : P.underlying dT = some (.slice elem)) (hsz : (P.info? elem).map (·.size) = some 1)
    (s : ByteArray) (hx : a.eval x = .string s) (dp : Option Addr) (dLen dCap : Nat) (hd : a.eval d = .slice dp dLen dCap) (hle : s.size ≤ dLen)
    (g off : Nat) (hpos : 0 < s.size → dp = some ⟨g, off, none⟩) (cur : List Value) (t : TypeId) (hg : w.heap[g]? = some (.cells cur.toArray t (0, 0))) (hfit : off + s.size ≤ cur.length)
    (B : Nat) (w0 : World) (hb : Below B w0 w) (hBg : B ≤ g)
    (h : ∀ w', Hid (w'.heap[g]? = some (.cells (splice cur off (bcells s.data.toList)).toArray t (0, 0))) → Below B w0 w' → wpList P ops Q rest (a.put o.dst (goInt s.size)) w') : wpList P ops Q (o :: rest) a w := by
  refine wpList_plain hgd fun K hK => ?_
  have hl : (bcells s.data.toList).length = s.size := by simp [bcells]
  by_cases h0 : s.size = 0
  · have hrun := Lib.run_copy_empty_string (P := P) w dT sT o.type elem dp dLen dCap s hu (by rw [hsz]; rfl) h0
    have e : s.data.toList = [] := by
      have : s.data.toList.length = 0 := by simpa using h0
      exact List.eq_nil_of_length_eq_zero this
    unfold Oper.wp
    simp [execOp, ho, resolve, invoke, builtin, hd, hx, hrun, Result.andThen]
    refine hK _ _ ?_
    have := h w (show _ = _ by rw [e]; simpa [splice, bcells] using hg) hb
    rw [h0] at this
    exact this
  · obtain rfl := hpos (by omega)
    have hrun := Lib.run_copy_row_string (P := P) w dT sT o.type elem g off dLen dCap s cur.toArray t hu hsz hg hle (by simpa using hfit)
    unfold Oper.wp
    simp [execOp, ho, resolve, invoke, builtin, hd, hx, hrun, Result.andThen]
    refine hK _ _ (h _ (show _ = _ from ?_) (below_setRow hb hBg _))
    have := setRow_heap w g cur.toArray (cur.toArray.toList.take off ++ Lib.byteCells s.data.toList ++ cur.toArray.toList.drop (off + s.size)).toArray t (0, 0) hg
    simpa [splice, bcells, Lib.byteCells] using this
end
end Go.Proofs.YtioldepgoodipaaGreat
