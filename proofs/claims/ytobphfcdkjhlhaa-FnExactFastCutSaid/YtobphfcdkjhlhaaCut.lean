/- A text cut into what stands in one frame each: the program's and the model's. The answer is in memory of its own. -/
import Derived.Test.YtobphfcdkjhlhaaFilled
import Derived.Test.YtobphfcdkjhlhaaRsOwn
import Derived.Test.YtobphfcdkjhlhaaBroad
namespace Go.Proofs.Ytobphfcdkjhlhaa
open Go.RowKit
set_option linter.unusedVariables false

/-- The cell of a text. -/
def strL (t : ByteArray) : List Value := [.string t]
theorem strL_len (t : ByteArray) : (strL t).length = 1 := rfl
theorem strL_one (t : ByteArray) : ∀ u ∈ strL t, u.oneCell' = true := by
  intro u hu
  simp [strL] at hu
  subst hu
  rfl
theorem Cut.info : (Try.prog.info? 9).map (fun i => (i.zero, i.size, i.bytes)) = some (some (.string ByteArray.empty), 1, 16) := by kernel_rfl
/-- A byte of a number. -/
def byN (n : Int) : UInt8 := UInt8.ofNat n.toNat
theorem byN_to {n : Int} (h0 : 0 ≤ n) (h1 : n ≤ 255) : ((byN n).toNat : Int) = n := by
  unfold byN
  rw [UInt8.toNat_ofNat']
  omega
/-- What stands in the i-th frame. -/
def piece (sq : Int) (d : ByteArray) : Nat → ByteArray
  | 0 => ⟨(fill8 ([byN (32 * sq), byN d.size] ++ d.data.toList)).toArray⟩
  | i + 1 => ⟨(fill8 ([byN (32 * sq + ((i + 1 : Nat) : Int))] ++ d.data.toList.drop (6 + 7 * i))).toArray⟩
/-- The first n of them. -/
def pieces (sq : Int) (d : ByteArray) (n : Nat) : List ByteArray := (List.range n).map (piece sq d)
theorem pieces_length (sq : Int) (d : ByteArray) (n : Nat) : (pieces sq d n).length = n := by simp [pieces]
theorem pieces_succ (sq : Int) (d : ByteArray) (n : Nat) : pieces sq d (n + 1) = pieces sq d n ++ [piece sq d n] := by
  unfold pieces
  rw [List.range_succ, List.map_append]
  rfl
/-- What a text is cut into. -/
def cutB (sq : Int) (d : ByteArray) : Bool := inB 0 7 sq && (decide (1 ≤ d.size) && decide (d.size ≤ 223))
def cutL (sq : Int) (d : ByteArray) : List ByteArray := if cutB sq d = true then pieces sq d (1 + d.size / 7) else []
theorem cutL_len (sq : Int) (d : ByteArray) : (cutL sq d).length ≤ 32 := by
  unfold cutL
  split
  · rename_i h
    unfold cutB at h
    simp only [Bool.and_eq_true, decide_eq_true_eq] at h
    rw [pieces_length]
    omega
  · simp
theorem toList_extract (s : ByteArray) (i j : Nat) : (s.extract i j).data.toList = (s.data.toList.drop i).take (j - i) := by
  rw [ByteArray.data_extract]
  simp [Array.toList_extract, List.extract]
section
variable {α : Type} {P : Program} {ops : Array Oper} {rest : List Oper} {o : Oper} {a : Act} {w : World} {Q : Exit → Act → World → Prop} {c : α → List Value} {size : Nat}
/-- A literal of one item, which is the call's own. -/
theorem wpList_lit1o (hc : ∀ x, (c x).length = size) (hgd : o.guard = none) (t : TypeId) (y : Operand) (ho : o.op = .buildSlice t 1 #[(0, y)]) (e : TypeId) (i : TypeInfo) (ht : P.underlying t = some (.slice e)) (hi : P.info? e = some i)
    (z : Value) (hz : i.zero = some z) (hsize : i.size = size) (x : α) (v : Value) (hy : a.eval y = v) (hv : v.cells = (c x).toArray) (hzs : z.cells.size = size) (hsz : 0 < size) (hmax : size ≤ 16777216)
    (h : ∀ w' g, w.heap.size = g → OwnIn c size e g w'.heap.size w' (.slice (some ⟨g, 0, none⟩) 1 1) [x] → Below w.heap.size w w' → wpList P ops Q rest (a.put o.dst (.slice (some ⟨g, 0, none⟩) 1 1)) w') : wpList P ops Q (o :: rest) a w :=
  wpList_plain hgd fun K hK => by
    have hown : (w.alloc (.cells (c x).toArray e)).ownsRow w.heap.size e size (.slice (some ⟨w.heap.size, 0, none⟩) 1 1) 1 (c x) := by
      refine ⟨by rw [hc]; omega, .inr ⟨w.heap.size, 1, (c x).toArray, rfl, Nat.le_refl _, heap_alloc_new w _, Nat.le_refl _, by unfold maxLen; omega, by simp [hc], ?_⟩⟩
      rw [List.take_of_length_le (by simp [hc])]
    have := hK _ _ (h (w.alloc (.cells (c x).toArray e)) _ rfl ⟨by simpa using hown, fun k hk => by simp [Value.ownBlock] at hk; subst hk; simp⟩ ((Below.refl _ _).alloc (Nat.le_refl _) _))
    unfold Oper.wp execOp
    have hlen := hc x
    simp [ho, Instr.buildSlice, run_underlying ht, sizeOf, typeInfo, hi, hz, zeroValue, Instr.fill, newRow, -run_newObj, Result.andThen_ok, hy, hv, hlen, hsize, show ¬ 16777216 < size by omega, show ¬ size = 0 by omega]
    rw [fold_set _ _ 0 (by simp [hlen])]
    simp [-run_newObj]
    exact this
theorem OwnIn.lit (hc : ∀ x, (c x).length = size) (w : World) (e : TypeId) (x : α) : OwnIn c size e w.heap.size (w.alloc (.cells (c x).toArray e)).heap.size (w.alloc (.cells (c x).toArray e)) (.slice (some ⟨w.heap.size, 0, Option.none⟩) 1 1) [x] := by
  refine ⟨⟨by simp [hc], .inr ⟨w.heap.size, 1, (c x).toArray, rfl, Nat.le_refl _, heap_alloc_new w _, Nat.le_refl _, by unfold maxLen; omega, by simp [hc], ?_⟩⟩, fun k hk => by simp [Value.ownBlock] at hk; subst hk; simp⟩
  rw [List.take_of_length_le (by simp [hc])]
  simp
theorem OwnIn.widenLo {e : TypeId} {lo lo' hi : Nat} {v : Value} {l : List α} (h : OwnIn c size e lo hi w v l) (h1 : lo' ≤ lo) : OwnIn c size e lo' hi w v l := by
  obtain ⟨⟨h0, h2⟩, h3⟩ := h
  refine ⟨⟨h0, ?_⟩, h3⟩
  rcases h2 with h2 | ⟨g, cap, cur, rfl, hb, k⟩
  · exact .inl h2
  · exact .inr ⟨g, cap, cur, rfl, Nat.le_trans h1 hb, k⟩
/-- append of one item, as a step of a region that draws its order. -/
theorem step_append_rs {K : Act → World → Prop} {E : Prop} (hc : ∀ x, (c x).length = size) (hone : ∀ x, ∀ u ∈ c x, u.oneCell' = true) (hgd : o.guard = none) (s x : Operand) (t : TypeId)
    (ho : o.op = .call { callee := .builtin .append, args := #[s, x], argTypes := #[t, t] })
    (e : TypeId) (i : TypeInfo) (z : Value) (bytes : Nat) (ht : P.underlying t = some (.slice e)) (hi : P.info? e = some i) (hz : i.zero = some z)
    (hsize : i.size = size) (hby : i.bytes = bytes) (hzs : z.cells.size = size) (hsz : 0 < size)
    (lo hi' : Nat) (v : Value) (l : List α) (hs : a.eval s = v) (hown : OwnIn c size e lo hi' w v l)
    (g : Nat) (cap : Nat) (y : α) (hx : a.eval x = .slice (some ⟨g, 0, none⟩) 1 cap) (hin : RsIn c size w (some ⟨g, 0, none⟩) [y])
    (h63 : l.length + 1 ≤ maxLen) (hbytes : (l.length + 1) * bytes ≤ 140737488355328) (hbase : lo ≤ w.heap.size)
    (h : ∀ v' w', OwnIn c size e lo w'.heap.size w' v' (l ++ [y]) → Out lo hi' w w' → K (a.put o.dst v') w') :
    if Region.wanted o (yielded ops a.tmps) = true then Oper.wp P o a w K Q else E := by
  have hw : Region.wanted o (yielded ops a.tmps) = true := by simp [Region.wanted, hgd]
  rw [if_pos hw]
  obtain ⟨hown, hlt⟩ := hown
  obtain ⟨b, o2, h', _, hcs⟩ := hin.at (by simp)
  obtain ⟨rfl, rfl⟩ : g = b ∧ 0 = o2 := by simpa using h'
  refine wp_append_own w s x t ho lo e i z size bytes ht hi hz hsize hby hzs hsz v l.length (l.flatMap c) hs hown ⟨g, 0, none⟩ 1 cap ([y].flatMap c) hx (flat_len c size hc [y]) (RsIn.news hc hcs) ?_ h63 hbytes hbase fun v' w' h1 h2 _ => ?_
  · intro u hu
    rw [List.mem_flatMap] at hu
    obtain ⟨x', _, hx'⟩ := hu
    exact hone x' u hx'
  · exact h v' w' ⟨by simpa using h1, fun k hk => (World.ownsRow.lt h1 k hk).2⟩ (Out.of_grown h2 fun k hk => ⟨(World.ownsRow.lt hown k hk).1, hlt k hk⟩)
end
theorem lit_rs (w : World) (s : ByteArray) (T : TypeId) : RsIn strL 1 (w.alloc (.cells #[.string s] T)) (some ⟨w.heap.size, 0, none⟩) [s] :=
  .inr ⟨w.heap.size, 0, rfl, by simp, fun i x hx j v hv => by
    rcases i with _ | i
    · simp at hx
      subst hx
      rw [cell_of_row _ _ _ _ _ (0, 0) (heap_alloc_new w _)]
      have hj : j = 0 := by
        have := (List.getElem?_eq_some_iff.1 hv).1
        simp [strL] at this
        omega
      subst hj
      simpa [strL] using hv
    · simp at hx⟩
theorem byte_cells2 {w : World} {A B : Int} {T : TypeId} (a0 : 0 ≤ A) (a1 : A ≤ 255) (b0 : 0 ≤ B) (b1 : B ≤ 255) :
    ∀ j u, (bcells [byN A, byN B])[j]? = some u → (w.alloc (.cells #[.int .u8 A, .int .u8 B] T)).cell? ((⟨w.heap.size, 0, none⟩ : Addr).add j) = some u := by
  intro j u hj
  have e : (⟨w.heap.size, 0, none⟩ : Addr).add j = ⟨w.heap.size, j, none⟩ := by unfold Addr.add; split <;> simp_all
  rw [e, cell_of_row _ _ _ _ _ (0, 0) (heap_alloc_new w _)]
  rcases j with _ | _ | j
  · simp [bcells, byN_to a0 a1] at hj
    subst hj
    rfl
  · simp [bcells, byN_to b0 b1] at hj
    subst hj
    rfl
  · simp [bcells] at hj
theorem byte_cells1 {w : World} {A : Int} {T : TypeId} (a0 : 0 ≤ A) (a1 : A ≤ 255) :
    ∀ j u, (bcells [byN A])[j]? = some u → (w.alloc (.cells #[.int .u8 A] T)).cell? ((⟨w.heap.size, 0, none⟩ : Addr).add j) = some u := by
  intro j u hj
  have e : (⟨w.heap.size, 0, none⟩ : Addr).add j = ⟨w.heap.size, j, none⟩ := by unfold Addr.add; split <;> simp_all
  rw [e, cell_of_row _ _ _ _ _ (0, 0) (heap_alloc_new w _)]
  rcases j with _ | j
  · simp [bcells, byN_to a0 a1] at hj
    subst hj
    rfl
  · simp [bcells] at hj
/-- A slice of texts, in memory of the call's own. -/
def StrsOut (w : World) (l : List ByteArray) (e : Ending) (w' : World) : Prop :=
  ∃ a cap, e = .returned (.slice a l.length cap) ∧ RsNew strL 1 9 w.heap.size w'.heap.size w' a l ∧ Below w.heap.size w w'
theorem filled2_any (w : World) (A B : Int) (T : TypeId) (a0 : 0 ≤ A) (a1 : A ≤ 255) (b0 : 0 ≤ B) (b1 : B ≤ 255) (s : ByteArray) :
    Calls Try.prog 74 #[.slice (some ⟨w.heap.size, 0, none⟩) 2 2, .string s] (w.alloc (.cells #[.int .u8 A, .int .u8 B] T)) fun e w' => e = .returned (.string ⟨(fill8 ([byN A, byN B] ++ s.data.toList)).toArray⟩) ∧ Below w.heap.size w w' :=
  (filled_any w.heap.size [byN A, byN B] s (w.alloc (.cells #[.int .u8 A, .int .u8 B] T)) (by show 1 ≤ 2; decide) (by show 2 ≤ 2; decide) (byte_cells2 a0 a1 b0 b1) (by simp)).mono fun _ _ ⟨h1, h2⟩ => ⟨h1, ((Below.refl _ _).alloc (Nat.le_refl _) _).trans (h2.mono (by simp))⟩
theorem filled1_any (w : World) (A : Int) (T : TypeId) (a0 : 0 ≤ A) (a1 : A ≤ 255) (s : ByteArray) :
    Calls Try.prog 74 #[.slice (some ⟨w.heap.size, 0, none⟩) 1 1, .string s] (w.alloc (.cells #[.int .u8 A] T)) fun e w' => e = .returned (.string ⟨(fill8 ([byN A] ++ s.data.toList)).toArray⟩) ∧ Below w.heap.size w w' :=
  (filled_any w.heap.size [byN A] s (w.alloc (.cells #[.int .u8 A] T)) (by show 1 ≤ 1; decide) (by show 1 ≤ 2; decide) (byte_cells1 a0 a1) (by simp)).mono fun _ _ ⟨h1, h2⟩ => ⟨h1, ((Below.refl _ _).alloc (Nat.le_refl _) _).trans (h2.mono (by simp))⟩
set_option maxRecDepth 100000 in
set_option maxHeartbeats 4000000 in
theorem implCut_any (sq : Int) (d : ByteArray) (w : World) (hd : d.size ≤ maxLen) :
    Calls Try.prog 26 #[.int .i64 sq, .string d] w (StrsOut w (cutL sq d)) := by
  unfold StrsOut cutL maxLen at *
  rcases c0 : inB 0 7 sq
  · rw [if_neg (by simp [cutB, c0])]
    go_enter Try.func26, Try.ntmps26
    go_wp2_with (go_at_call 56; refine (from0_any _ _ _).mono ?_; rw [c0]; rintro e w' ⟨rfl, rfl⟩)
    go_ret
    exact ⟨none, 0, rfl, RsNew.nil _, Below.refl _ _⟩
  by_cases h1 : (d.size : Int) < 1
  · have d1 : decide ((d.size : Int) < 1) = true := decide_eq_true h1
    rw [if_neg (by simp [cutB]; omega)]
    go_enter Try.func26, Try.ntmps26
    go_wp2_with (go_at_call 56; refine (from0_any _ _ _).mono ?_; rw [c0]; rintro e w' ⟨rfl, rfl⟩)
    go_ret
    exact ⟨none, 0, rfl, RsNew.nil _, Below.refl _ _⟩
  have d1 : decide ((d.size : Int) < 1) = false := decide_eq_false h1
  by_cases h2 : (223 : Int) < (d.size : Int)
  · have d2 : decide ((223 : Int) < (d.size : Int)) = true := decide_eq_true h2
    rw [if_neg (by simp [cutB]; omega)]
    go_enter Try.func26, Try.ntmps26
    go_wp2_with (go_at_call 56; refine (from0_any _ _ _).mono ?_; rw [c0]; rintro e w' ⟨rfl, rfl⟩)
    go_ret
    exact ⟨none, 0, rfl, RsNew.nil _, Below.refl _ _⟩
  have d2 : decide ((223 : Int) < (d.size : Int)) = false := decide_eq_false h2
  rw [if_pos (by simp [cutB, c0]; omega)]
  obtain ⟨i0, hi, hz0, hz1, hz2⟩ := info_parts Cut.info
  have HI := Lib.hid hi
  have hs := inB_of c0
  have hm : IntKind.i64.wrap (32 * sq) = 32 * sq := IntWalk.i64_in _ (by omega)
  have hu : IntKind.u8.wrap (32 * sq) = 32 * sq := IntWalk.u8_in _ (by omega)
  have hl : IntKind.u8.wrap (d.size : Int) = (d.size : Int) := IntWalk.u8_in _ (by omega)
  clear hi
  have HP0 := Lib.hid (show [piece sq d 0] = pieces sq d (1 + 0) from rfl)
  have hP : ∀ x, x = piece sq d 0 → [x] = pieces sq d (1 + 0) := fun x h => by rw [h]; rfl
  have HPx := Lib.hid hP
  clear hP HP0
  go_enter Try.func26, Try.ntmps26
  go_wp2_with (go_at_call 56; refine (from0_any _ _ _).mono ?_; rw [c0]; rintro e w' ⟨rfl, rfl⟩)
  refine (filled2_any w (32 * sq) d.size 5 (by omega) (by omega) (by omega) (by omega) d).mono ?_
  rintro e w1 ⟨rfl, hb1⟩
  go_wp2_with (refine wpList_lit1o strL_len rfl 47 (.tmp 30) rfl 9 i0 Try.underlying47 HI.out _ hz0 hz1 _ _ rfl rfl rfl (by decide) (by decide) ?_; intro w2 G e2 hown b2; subst e2; have HO0 := Lib.hid hown; have HB0 := Lib.hid (hb1.trans (b2.mono hb1.size)); clear hown b2)
  have HO1 := Lib.hid (show OwnIn strL 1 9 w.heap.size w2.heap.size w2 _ (pieces sq d (1 + 0)) from ((HPx.out _ rfl) ▸ HO0.out).widenLo hb1.size)
  clear HO0 HPx
  go_loopw [6, 7] (fun v at_ wr => ∃ (k : Nat) (V : Value), at_ = .int .i64 ((6 + 7 * k : Nat) : Int) ∧ V = v ∧ k ≤ d.size / 7 ∧ OwnIn strL 1 9 w.heap.size wr.heap.size wr V (pieces sq d (1 + k)) ∧ Below w.heap.size w wr) (fun _ at_ _ => d.size - (intOf at_).toNat)
  case atStart => exact ⟨0, _, rfl, rfl, by omega, HO1.out, HB0.out⟩
  case round =>
    obtain ⟨k, V, rfl, rfl, hk, hown, hb⟩ := hrel
    obtain ⟨a, cap, rfl, _, _⟩ := hown.new strL_len
    have HO := Lib.hid hown
    clear hown HO1 HB0 hb1
    rw [pieces_length]
    by_cases hlt : 6 + 7 * k < d.size
    · have hd : decide (((6 + 7 * k : Nat) : Int) < (d.size : Int)) = true := decide_eq_true (by omega)
      have hc1 : IntKind.u8.wrap ((1 + k : Nat) : Int) = ((1 + k : Nat) : Int) := IntWalk.u8_in _ (by omega)
      have hc2 : IntKind.u8.wrap (32 * sq + ((1 + k : Nat) : Int)) = 32 * sq + ((1 + k : Nat) : Int) := IntWalk.u8_in _ (by omega)
      have hc3 : IntKind.i64.wrap (((6 + 7 * k : Nat) : Int) + 7) = ((6 + 7 * k + 7 : Nat) : Int) := by rw [IntWalk.i64_in _ (by omega)]; omega
      have HPn := Lib.hid (show pieces sq d (1 + (k + 1)) = pieces sq d (1 + k) ++ [(⟨(fill8 ([byN (32 * sq + ((1 + k : Nat) : Int))] ++ (d.extract (6 + 7 * k) d.size).data.toList)).toArray⟩ : ByteArray)] by
        rw [show 1 + (k + 1) = (1 + k) + 1 by omega, pieces_succ, Nat.add_comm 1 k]
        congr 2
        unfold piece
        rw [toList_extract, List.take_of_length_le (by simp)])
      have HLM := Lib.hid (pieces_length sq d (1 + k))
      generalize pieces sq d (1 + k) = L at *
      obtain ⟨M, hM⟩ : ∃ M, 1 + k = M := ⟨_, rfl⟩
      obtain ⟨X, hX⟩ : ∃ X, 6 + 7 * k = X := ⟨_, rfl⟩
      have HM := Lib.hid hM
      have HX := Lib.hid hX
      have hM32 : M ≤ 32 := by omega
      have hX3 : X + 7 = 6 + 7 * (k + 1) := by omega
      have hF : 32 * sq + (M : Int) ≤ 255 := by omega
      rw [hM] at hc1 hc2 HPn HLM ⊢
      rw [hX] at hlt hd hc3 HPn ⊢
      clear hM hX
      have HFc := Lib.hid (filled1_any wr (32 * sq + (M : Int)) 5 (by omega) hF (d.extract X d.size))
      generalize (⟨(fill8 ([byN (32 * sq + (M : Int))] ++ (d.extract X d.size).data.toList)).toArray⟩ : ByteArray) = Y at HPn HFc
      go_wp2_with fail
      refine HFc.out.mono ?_
      rintro e w3 ⟨rfl, h3⟩
      have HO3 := Lib.hid (HO.out.kept h3)
      have HB3 := Lib.hid (hb.trans (h3.mono hb.size))
      have hs3 := h3.size
      clear h3 HFc
      go_wp2_with (first
        | (refine wpList_lit1 strL_len rfl 47 (.tmp 48) rfl 9 i0 Try.underlying47 HI.out _ hz0 hz1 Y _ rfl rfl rfl (by decide) (by decide) ?_; intro w4 R e4 hin4 b4; have HR4 := Lib.hid hin4; have HO4 := Lib.hid (HO3.out.kept b4); have HB4 := Lib.hid (HB3.out.trans (b4.mono HB3.out.size)); have hs4 := b4.size; clear e4 hin4 b4)
        | (at_builtin; refine wpList_append_rs strL_len strL_one rfl (.tmp 38) (.tmp 49) 47 rfl 9 i0 _ 16 Try.underlying47 HI.out hz0 hz1 hz2 rfl (by decide) w.heap.size wr.heap.size _ L (by rw [HLM.out]; rfl) HO4.out _ 1 [Y] rfl HR4.out (by rw [HLM.out]; unfold maxLen; show _ + 1 ≤ _; omega) (by rw [HLM.out]; show (_ + 1) * 16 ≤ _; omega) HB4.out.size ?_; intro v5 w5 hown5 ho5; have HO5 := Lib.hid hown5; have HU5 := Lib.hid ho5; clear hown5 ho5))
      go_roundw
      case rel =>
        exact ⟨k + 1, _, by simp, rfl, by omega, by rw [HPn.out]; exact HO5.out, HU5.out.below HB4.out (Nat.le_refl _) HB4.out.size⟩
      case measure =>
        have h1 := HX.out
        simp [intOf]
        omega
    · have hd : decide (((6 + 7 * k : Nat) : Int) < (d.size : Int)) = false := decide_eq_false (by omega)
      have hk7 : k = d.size / 7 := by omega
      go_wp2_with fail
      go_ret
      obtain ⟨a', cap', h', _, hn⟩ := HO.out.new strL_len
      rw [pieces_length] at h'
      rw [← hk7, pieces_length]
      exact ⟨a', cap', by rw [← h']; rfl, hn, hb⟩
theorem piece_first (sq : Int) (d : ByteArray) (at_ : Nat) (h : at_ = 6 ∨ (at_ = d.size ∧ d.size ≤ 6)) : piece sq d 0 = ⟨(fill8 ([byN (32 * sq), byN d.size] ++ d.data.toList.take at_)).toArray⟩ := by
  have hl : d.data.toList.length = d.size := by simp
  rcases h with rfl | ⟨rfl, _⟩
  · rw [fill8_take _ _ 6 (by simp)]
    rfl
  · rw [List.take_of_length_le (by omega)]
    rfl
theorem piece_next (sq : Int) (d : ByteArray) (k tt : Nat) (h : tt = 6 + 7 * (k + 1) ∨ (tt = d.size ∧ d.size ≤ 6 + 7 * (k + 1))) : piece sq d (k + 1) = ⟨(fill8 ([byN (32 * sq + ((k + 1 : Nat) : Int))] ++ (d.extract (6 + 7 * k) tt).data.toList)).toArray⟩ := by
  rw [toList_extract]
  have hl : (d.data.toList.drop (6 + 7 * k)).length = d.size - (6 + 7 * k) := by simp
  rcases h with rfl | ⟨rfl, h⟩
  · rw [show 6 + 7 * (k + 1) - (6 + 7 * k) = 7 by omega, fill8_take _ _ 7 (by simp)]
    rfl
  · rw [List.take_of_length_le (by omega)]
    rfl
theorem fill_first (sq : Int) (d : ByteArray) (at_ : Nat) (h : at_ = 6 ∨ (at_ = d.size ∧ d.size ≤ 6)) (W : World) :
    Calls Try.prog 78 #[.string (⟨[byN (32 * sq), byN d.size].toArray⟩ ++ d.extract 0 at_), .int .i64 8] W fun e w' => e = .returned (.string (piece sq d 0)) ∧ Below W.heap.size W w' := by
  have e : ((⟨[byN (32 * sq), byN d.size].toArray⟩ : ByteArray) ++ d.extract 0 at_).data.toList = [byN (32 * sq), byN d.size] ++ d.data.toList.take at_ := by
    rw [ByteArray.data_append, Array.toList_append, toList_extract]
    rfl
  refine (l06Fill_any _ W ?_).mono fun e' w' ⟨h1, h2⟩ => ⟨by rw [h1, e, piece_first sq d at_ h], h2⟩
  have hz : ∀ T : ByteArray, T.size = T.data.toList.length := fun T => by simp
  rw [hz, e, List.length_append, List.length_take]
  have hl : d.data.toList.length = d.size := by simp
  show 2 + _ ≤ 8
  omega
theorem fill_next (sq : Int) (d : ByteArray) (k tt : Nat) (h : tt = 6 + 7 * (k + 1) ∨ (tt = d.size ∧ d.size ≤ 6 + 7 * (k + 1))) (W : World) :
    Calls Try.prog 78 #[.string (⟨[byN (32 * sq + ((k + 1 : Nat) : Int))].toArray⟩ ++ d.extract (6 + 7 * k) tt), .int .i64 8] W fun e w' => e = .returned (.string (piece sq d (k + 1))) ∧ Below W.heap.size W w' := by
  have e : ((⟨[byN (32 * sq + ((k + 1 : Nat) : Int))].toArray⟩ : ByteArray) ++ d.extract (6 + 7 * k) tt).data.toList = [byN (32 * sq + ((k + 1 : Nat) : Int))] ++ (d.extract (6 + 7 * k) tt).data.toList := by
    rw [ByteArray.data_append, Array.toList_append]
  refine (l06Fill_any _ W ?_).mono fun e' w' ⟨h1, h2⟩ => ⟨by rw [h1, e, piece_next sq d k tt h], h2⟩
  have hz : ∀ T : ByteArray, T.size = T.data.toList.length := fun T => by simp
  rw [hz, e, List.length_append, toList_extract, List.length_take, List.length_drop]
  have hl : d.data.toList.length = d.size := by simp
  show 1 + _ ≤ 8
  omega
/-- The bytes of a literal, as a text. -/
theorem conv2 {w : World} {A B : Int} (a0 : 0 ≤ A) (a1 : A ≤ 255) (b0 : 0 ≤ B) (b1 : B ≤ 255) :
    (convert 22 9 (.slice (some ⟨w.heap.size, 0, none⟩) 2 2)).run Try.prog (w.alloc (.cells #[.int .u8 A, .int .u8 B] 5)).drew = .ok (.string ⟨[byN A, byN B].toArray⟩) (w.alloc (.cells #[.int .u8 A, .int .u8 B] 5)).drew :=
  conv_row (P := Try.prog) (w := (w.alloc (.cells #[.int .u8 A, .int .u8 B] 5)).drew) (heap_alloc_new w _) (l := [byN A, byN B]) 2 rfl (by simp [bcells, byN_to a0 a1, byN_to b0 b1]) 22 9 Try.underlying22 Try.underlying5 Try.underlying9 2
theorem conv1 {w : World} {A : Int} (a0 : 0 ≤ A) (a1 : A ≤ 255) :
    (convert 22 9 (.slice (some ⟨w.heap.size, 0, none⟩) 1 1)).run Try.prog (w.alloc (.cells #[.int .u8 A] 5)).drew = .ok (.string ⟨[byN A].toArray⟩) (w.alloc (.cells #[.int .u8 A] 5)).drew :=
  conv_row (P := Try.prog) (w := (w.alloc (.cells #[.int .u8 A] 5)).drew) (heap_alloc_new w _) (l := [byN A]) 1 rfl (by simp [bcells, byN_to a0 a1]) 22 9 Try.underlying22 Try.underlying5 Try.underlying9 1
set_option maxRecDepth 100000 in
set_option maxHeartbeats 4000000 in
theorem l06Cut_any (sq : Int) (d : ByteArray) (w : World) (hc : cutB sq d = true) :
    Calls Try.prog 87 #[.int .i64 sq, .string d] w (StrsOut w (pieces sq d (1 + d.size / 7))) := by
  unfold StrsOut
  unfold cutB at hc
  simp only [Bool.and_eq_true, decide_eq_true_eq] at hc
  obtain ⟨c0, h1, h2⟩ := hc
  obtain ⟨i0, hi, hz0, hz1, hz2⟩ := info_parts Cut.info
  have HI := Lib.hid hi
  have hs := inB_of c0
  have hm : IntKind.i64.wrap (32 * sq) = 32 * sq := IntWalk.i64_in _ (by omega)
  have hu : IntKind.u8.wrap (32 * sq) = 32 * sq := IntWalk.u8_in _ (by omega)
  have hl : IntKind.u8.wrap (d.size : Int) = (d.size : Int) := IntWalk.u8_in _ (by omega)
  clear hi c0
  obtain ⟨at0, hat0⟩ : ∃ at0 : Nat, (if (6 : Int) < (d.size : Int) then (6 : Int) else (d.size : Int)) = (at0 : Int) := by
    split
    · exact ⟨6, rfl⟩
    · exact ⟨d.size, rfl⟩
  have hat1 : at0 = 6 ∨ (at0 = d.size ∧ d.size ≤ 6) := by
    split at hat0 <;> omega
  have HP0 := Lib.hid (piece_first sq d at0 hat1)
  have HCv := fun W : World => Lib.hid (conv2 (w := W) (A := 32 * sq) (B := d.size) (by omega) (by omega) (by omega) (by omega))
  have ha0 : at0 ≤ d.size := by omega
  have HF0 := Lib.hid (fill_first sq d at0 hat1)
  go_enter Try.func87, Try.ntmps87
  go_wp2_with fail
  refine (l01Min_any _ _ _).mono ?_
  rw [hat0]
  rintro e w' ⟨rfl, rfl⟩
  go_wp2_with fail
  have hcv := (HCv w).out
  go_region_with (go_at_call 78; refine (HF0.out _).mono ?_; rintro e w3 ⟨rfl, h3⟩)
  all_goals have HB3 := Lib.hid (((Below.refl w.heap.size w).alloc (Nat.le_refl _) (.cells #[.int .u8 (32 * sq), .int .u8 d.size] 5)).drew.trans (h3.mono (by simp)))
  all_goals have HO0 := Lib.hid (OwnIn.lit strL_len w3 9 (piece sq d 0))
  all_goals clear h3
  have HAT := Lib.hid hat1
  clear hcv HCv HF0 HP0 hat0 hat1
  go_wp2_with fail
  have HO1 := Lib.hid (show OwnIn strL 1 9 w.heap.size (w3.alloc (.cells #[.string (piece sq d 0)] 9)).heap.size (w3.alloc (.cells #[.string (piece sq d 0)] 9)) (.slice (some ⟨w3.heap.size, 0, none⟩) 1 1) (pieces sq d (1 + 0)) from (HO0.out).widenLo HB3.out.size)
  have HB1 := Lib.hid (HB3.out.alloc HB3.out.size (.cells #[.string (piece sq d 0)] 9))
  clear HO0 HB3
  go_loopw [5, 6, 7, 8] (fun at_ v ix _ wr => ∃ (k A : Nat) (V : Value), at_ = .int .i64 (A : Int) ∧ ix = .int .i64 ((k + 1 : Nat) : Int) ∧ V = v ∧ k ≤ d.size / 7 ∧ (A = 6 + 7 * k ∨ (A = d.size ∧ d.size ≤ 6 + 7 * k)) ∧ OwnIn strL 1 9 w.heap.size wr.heap.size wr V (pieces sq d (1 + k)) ∧ Below w.heap.size w wr) (fun _ _ ix _ _ => 100 - (intOf ix).toNat)
  case atStart => exact ⟨0, at0, _, rfl, rfl, rfl, by omega, by have := HAT.out; omega, HO1.out, HB1.out⟩
  case round =>
    obtain ⟨k, A, V, rfl, rfl, rfl, hk, hA, hown, hb⟩ := hrel
    obtain ⟨a, cap, rfl, _, _⟩ := hown.new strL_len
    have HO := Lib.hid hown
    clear hown HO1 HB1
    rw [pieces_length]
    by_cases hlt : A < d.size
    · have hA2 : A = 6 + 7 * k := by omega
      clear hA
      have hd : decide ((A : Int) < (d.size : Int)) = true := decide_eq_true (by omega)
      have hc1 : IntKind.i64.wrap ((A : Int) + 7) = ((A + 7 : Nat) : Int) := by rw [IntWalk.i64_in _ (by omega)]; omega
      have hc2 : IntKind.i64.wrap (32 * sq + ((k + 1 : Nat) : Int)) = 32 * sq + ((k + 1 : Nat) : Int) := IntWalk.i64_in _ (by omega)
      have hc3 : IntKind.u8.wrap (32 * sq + ((k + 1 : Nat) : Int)) = 32 * sq + ((k + 1 : Nat) : Int) := IntWalk.u8_in _ (by omega)
      have hc4 : IntKind.i64.wrap (((k + 1 : Nat) : Int) + 1) = ((k + 1 + 1 : Nat) : Int) := by rw [IntWalk.i64_in _ (by omega)]; omega
      obtain ⟨tt, htt⟩ : ∃ tt : Nat, (if ((A + 7 : Nat) : Int) < (d.size : Int) then ((A + 7 : Nat) : Int) else (d.size : Int)) = (tt : Int) := by
        split
        · exact ⟨A + 7, rfl⟩
        · exact ⟨d.size, rfl⟩
      have ht1 : tt = 6 + 7 * (k + 1) ∨ (tt = d.size ∧ d.size ≤ 6 + 7 * (k + 1)) := by
        split at htt <;> omega
      have HT := Lib.hid ht1
      have htd : tt ≤ d.size := by split at htt <;> omega
      have hAt : A ≤ tt := by omega
      have HF1 := Lib.hid (fill_next sq d k tt ht1)
      rw [← hA2] at HF1
      have HPn := Lib.hid (show pieces sq d (1 + (k + 1)) = pieces sq d (1 + k) ++ [piece sq d (k + 1)] from by rw [show 1 + (k + 1) = (1 + k) + 1 by omega, pieces_succ, Nat.add_comm 1 k])
      have HLM := Lib.hid (pieces_length sq d (1 + k))
      have HK := Lib.hid (show k + 1 ≤ d.size / 7 by omega)
      have hF0 : 0 ≤ 32 * sq + ((k + 1 : Nat) : Int) := by omega
      have hF : 32 * sq + ((k + 1 : Nat) : Int) ≤ 255 := by omega
      have HCv := Lib.hid (fun W : World => conv1 (w := W) hF0 hF)
      generalize pieces sq d (1 + k) = L at *
      generalize piece sq d (k + 1) = Y at *
      have HKk := Lib.hid hk
      obtain ⟨M, hM⟩ : ∃ M, 1 + k = M := ⟨_, rfl⟩
      have hM32 : M ≤ 32 := by omega
      rw [hM] at HLM ⊢
      have HA2 := Lib.hid hA2
      obtain ⟨K1, hK1⟩ : ∃ K1, k + 1 = K1 := ⟨_, rfl⟩
      have HK1 := Lib.hid hK1
      rw [hK1] at hc2 hc3 hc4 hF0 hF HCv HF1 HK ⊢
      have hK32 : K1 ≤ 32 := by omega
      obtain ⟨A7, hA7⟩ : ∃ A7, A + 7 = A7 := ⟨_, rfl⟩
      rw [hA7] at hc1 htt
      clear ht1 hM hk hA2 hK1 hA7
      go_wp2_with fail
      refine (l01Min_any _ _ _).mono ?_
      rw [htt]
      rintro e w' ⟨rfl, rfl⟩
      clear htt
      go_wp2_with fail
      have hcv := HCv.out wr
      have hbig : ¬ 9223372036854775807 < 1 + (tt - A) := by omega
      go_region_law (first
        | (refine step_append_rs strL_len strL_one (by rfl) _ _ 47 (by rfl) 9 i0 _ 16 Try.underlying47 HI.out hz0 hz1 hz2 (by rfl) (by decide) w.heap.size wr.heap.size (.slice a M cap) L (by rfl) (by have h := HO4.out.kept ((Below.refl w4.heap.size w4).alloc (Nat.le_refl _) (.cells #[.string Y] 9)); rw [HLM.out] at h; exact h) w4.heap.size 1 Y (by rfl) (lit_rs w4 Y _) (by rw [HLM.out]; unfold maxLen; omega) (by rw [HLM.out]; omega) (by have h := HB4.out.size; simp; omega) ?_; intro v5 w5 hown5 ho5; have HO5 := Lib.hid hown5; have HB5 := Lib.hid (ho5.below (HB4.out.alloc HB4.out.size _) (Nat.le_refl _) (by have h := HB4.out.size; simp; omega)); clear hown5 ho5)
        | (go_simp; go_at_call 78; refine (HF1.out _).mono ?_; rintro e w4 ⟨rfl, h4⟩; have HO4 := Lib.hid ((HO.out.kept (((Below.refl wr.heap.size wr).alloc (Nat.le_refl _) _).drew)).kept h4); have HB4 := Lib.hid (((hb.alloc hb.size _).drew).trans (h4.mono (by have := hb.size; simp; omega))); clear h4))
      go_wp2_with fail
      go_roundw
      case rel => exact ⟨k + 1, tt, _, rfl, by rw [HK1.out]; simp, rfl, by rw [HK1.out]; exact HK.out, HT.out, by rw [HPn.out]; exact HO5.out, HB5.out⟩
      case measure =>
        have h9 := HK1.out
        simp [intOf]
        omega
    · have hd : decide ((A : Int) < (d.size : Int)) = false := decide_eq_false (by omega)
      have hk7 : k = d.size / 7 := by omega
      go_wp2_with fail
      go_ret
      obtain ⟨a', cap', h', _, hn⟩ := HO.out.new strL_len
      rw [pieces_length] at h'
      rw [← hk7, pieces_length]
      exact ⟨a', cap', by rw [← h']; rfl, hn, hb⟩
set_option maxRecDepth 100000 in
set_option maxHeartbeats 4000000 in
theorem specCut_any (sq : Int) (d : ByteArray) (w : World) (hd : d.size ≤ maxLen) :
    Calls Try.prog 32 #[.int .i64 sq, .string d] w (StrsOut w (cutL sq d)) := by
  obtain ⟨i0, hi, hz0, hz1, hz2⟩ := info_parts Cut.info
  have HI := Lib.hid hi
  clear hi
  unfold cutL maxLen at *
  have HL := fun h => Lib.hid (l06Cut_any sq d w h)
  unfold StrsOut at *
  rcases c0 : inB 0 7 sq
  · rw [if_neg (by simp [cutB, c0])]
    go_enter Try.func32, Try.ntmps32
    go_wp2_with (first | (go_at_call 62; refine (l02Is_any _ _ _ _).mono ?_; rw [c0]; rintro e w' ⟨rfl, rfl⟩) | (refine wpList_lit0 strL 1 rfl 47 rfl 9 i0 Try.underlying47 HI.out ?_; intro w2 G e2 hown b2; have HB2 := Lib.hid b2; clear hown b2 e2))
    go_ret
    exact ⟨_, _, rfl, RsNew.nil _, HB2.out⟩
  by_cases h1 : (d.size : Int) < 1
  · have d1 : decide ((d.size : Int) < 1) = true := decide_eq_true h1
    rw [if_neg (by simp [cutB]; omega)]
    go_enter Try.func32, Try.ntmps32
    go_wp2_with (first | (go_at_call 62; refine (l02Is_any _ _ _ _).mono ?_; rw [c0]; rintro e w' ⟨rfl, rfl⟩) | (refine wpList_lit0 strL 1 rfl 47 rfl 9 i0 Try.underlying47 HI.out ?_; intro w2 G e2 hown b2; have HB2 := Lib.hid b2; clear hown b2 e2))
    go_ret
    exact ⟨_, _, rfl, RsNew.nil _, HB2.out⟩
  have d1 : decide ((d.size : Int) < 1) = false := decide_eq_false h1
  by_cases h2 : (223 : Int) < (d.size : Int)
  · have d2 : decide ((223 : Int) < (d.size : Int)) = true := decide_eq_true h2
    rw [if_neg (by simp [cutB]; omega)]
    go_enter Try.func32, Try.ntmps32
    go_wp2_with (first | (go_at_call 62; refine (l02Is_any _ _ _ _).mono ?_; rw [c0]; rintro e w' ⟨rfl, rfl⟩) | (refine wpList_lit0 strL 1 rfl 47 rfl 9 i0 Try.underlying47 HI.out ?_; intro w2 G e2 hown b2; have HB2 := Lib.hid b2; clear hown b2 e2))
    go_ret
    exact ⟨_, _, rfl, RsNew.nil _, HB2.out⟩
  have d2 : decide ((223 : Int) < (d.size : Int)) = false := decide_eq_false h2
  have hc : cutB sq d = true := by simp [cutB, c0]; omega
  rw [if_pos hc]
  have HL2 := HL hc
  clear HL hc h1 h2
  go_enter Try.func32, Try.ntmps32
  go_wp2_with (go_at_call 62; refine (l02Is_any _ _ _ _).mono ?_; rw [c0]; rintro e w' ⟨rfl, rfl⟩)
  refine HL2.out.mono ?_
  rintro e w2 ⟨a2, c2, rfl, hn2, h2⟩
  go_wp2_with fail
  go_ret
  exact ⟨a2, c2, rfl, hn2, h2⟩
end Go.Proofs.Ytobphfcdkjhlhaa
