/- Eight bytes: what stands first, as much of a text as there is room for, and 255: the program's filled and the model's l06Fill. Nothing that was there is written. -/
import Derived.Test.YtanijfmfjabmfaaRepeat
import Derived.Test.YtanijfmfjabmfaaRs
import Derived.Test.YtanijfmfjabmfaaConv
namespace Go.Proofs.Ytanijfmfjabmfaa
open Go.RowKit
set_option linter.unusedVariables false

/-- The first eight of these bytes, filled up. -/
def fill8 (l : List UInt8) : List UInt8 := (l ++ List.replicate 8 255).take 8
theorem fill8_length (l : List UInt8) : (fill8 l).length = 8 := by simp [fill8]
theorem fill8_take (H S : List UInt8) (n : Nat) (h : 8 ≤ H.length + n) : fill8 (H ++ S.take n) = fill8 (H ++ S) := by
  unfold fill8
  rcases Nat.lt_or_ge S.length n with hn | hn
  · rw [List.take_of_length_le (Nat.le_of_lt hn)]
  · rw [List.take_append_of_le_length (l₁ := H ++ S.take n) (by rw [List.length_append, List.length_take]; omega), List.take_append_of_le_length (l₁ := H ++ S) (by rw [List.length_append]; omega), List.take_append (l₁ := H) (l₂ := S.take n), List.take_append (l₁ := H) (l₂ := S), List.take_take, Nat.min_eq_left (by omega)]
theorem two_splices {α : Type} (v : α) (H S : List α) (h : H.length ≤ 8) : splice (splice (List.replicate 8 v) 0 H) H.length (S.take (Nat.min S.length (8 - H.length))) = (H ++ S ++ List.replicate 8 v).take 8 := by
  have e1 : splice (List.replicate 8 v) 0 H = H ++ List.replicate (8 - H.length) v := by
    unfold splice
    rw [List.take_zero, List.nil_append, Nat.zero_add, List.drop_replicate]
  have e2 : S.take (Nat.min S.length (8 - H.length)) = S.take (8 - H.length) := by
    rcases Nat.le_total S.length (8 - H.length) with q | q
    · rw [show Nat.min S.length (8 - H.length) = S.length from Nat.min_eq_left q, List.take_of_length_le (Nat.le_refl _), List.take_of_length_le q]
    · rw [show Nat.min S.length (8 - H.length) = 8 - H.length from Nat.min_eq_right q]
  rw [e1, e2]
  unfold splice
  rw [List.take_append_of_le_length (Nat.le_refl _), List.take_of_length_le (Nat.le_refl _), List.drop_append, List.append_assoc, List.take_append, List.take_of_length_le h]
  congr 1
  rw [List.take_append, List.drop_of_length_le (by omega), List.nil_append]
  congr 1
  rw [List.length_take, List.drop_replicate, List.take_replicate]
  congr 1
  omega
section
variable {P : Program} {w : World} {ops : Array Oper} {rest : List Oper} {o : Oper} {a : Act} {Q : Exit → Act → World → Prop}
theorem run_copy_string_min (w : World) (dT sT ty elem : TypeId) (b o dLen dCap : Nat) (t : ByteArray) (cs : List Value) (hcs : (bcells t.data.toList).take (Nat.min t.size dLen) = cs)
    (hu : P.underlying dT = some (.slice elem)) (hz : (P.info? elem).map (·.size) = some 1)
    (hc : ∀ j, j < cs.length → (w.cell? ⟨b, o + j, none⟩).isSome = true) (hf : ∀ j, j < cs.length → w.frozen? ⟨b, o + j, none⟩ = false) :
    (Builtin.copy_ #[dT, sT] ty #[.slice (some ⟨b, o, none⟩) dLen dCap, .string t]).run P w = .ok (goInt (Nat.min t.size dLen)) (w.setCells b o cs) := by
  have hst := run_storeCells_cells (P := P) b o cs 0 w (by simpa using hc) (by simpa using hf) (by
    intro v hv
    rw [← hcs] at hv
    exact bcells_one _ v (List.mem_of_mem_take hv))
  simp only [Nat.add_zero] at hst
  cases hq : P.info? elem with
  | none => simp [hq] at hz
  | some i =>
    have hs : i.size = 1 := by simpa [hq] using hz
    unfold bcells at hcs
    simp [Builtin.copy_, run_underlying hu, Builtin.lenOf, Builtin.firstCells, sizeOf, typeInfo, hq]
    rw [hcs, hst]
    rfl
theorem setAll_splice (cur : List Value) (off : Nat) (cs : List Value) (h : off + cs.length ≤ cur.length) : setAll cur.toArray off cs = (splice cur off cs).toArray := by
  apply Array.ext'
  apply List.ext_getElem?
  intro j
  rw [Array.getElem?_toList]
  show _ = (splice cur off cs)[j]?
  unfold splice
  rcases Nat.lt_or_ge j off with h1 | h1
  · rw [setAll_off _ _ _ _ (.inl h1), List.getElem?_append_left (by rw [List.length_take]; omega), List.getElem?_take, if_pos h1]
    simp
  · rw [List.getElem?_append_right (by rw [List.length_take]; omega), List.length_take, Nat.min_eq_left (by omega)]
    rcases Nat.lt_or_ge (j - off) cs.length with h2 | h2
    · rw [List.getElem?_append_left h2]
      have := setAll_at cs cur.toArray off (j - off) cs[j - off] (by simpa using h) (List.getElem?_eq_getElem h2)
      rw [show off + (j - off) = j by omega] at this
      rw [this, List.getElem?_eq_getElem h2]
    · rw [setAll_off _ _ _ _ (.inr (by omega)), List.getElem?_append_right h2, List.getElem?_drop]
      rw [show off + cs.length + (j - off - cs.length) = j by omega]
      simp
theorem wpList_copy_str_h (hgd : o.guard = none) (d x : Operand) (dT sT : TypeId) (ho : o.op = .call { callee := .builtin .copy, args := #[d, x], argTypes := #[dT, sT] }) (elem : TypeId) (hu : P.underlying dT = some (.slice elem)) (hsz : (P.info? elem).map (·.size) = some 1)
    (s : ByteArray) (hx : a.eval x = .string s) (g off dLen dCap : Nat) (hd : a.eval d = .slice (some ⟨g, off, none⟩) dLen dCap) (cs : List Value) (hcs : (bcells s.data.toList).take (Nat.min s.size dLen) = cs)
    (cur : List Value) (t : TypeId) (hg : w.heap[g]? = some (.cells cur.toArray t (0, 0))) (hfit : off + cs.length ≤ cur.length)
    (h : ∀ w', w'.heap[g]? = some (.cells (splice cur off cs).toArray t (0, 0)) → Out g (g + 1) w w' → wpList P ops Q rest (a.put o.dst (goInt (Nat.min s.size dLen))) w') : wpList P ops Q (o :: rest) a w := by
  refine wpList_plain hgd fun K hK => ?_
  have hrun := run_copy_string_min (P := P) w dT sT o.type elem g off dLen dCap s cs hcs hu hsz (fun j hj => by
    rw [cell_of_row w g _ _ _ _ hg, Array.getElem?_eq_getElem (by simp; omega)]
    rfl) (fun j _ => frozen_of_row w g _ _ t hg)
  unfold Oper.wp
  simp [execOp, ho, resolve, invoke, builtin, hd, hx, hrun, Result.andThen]
  have hh := heap_setCells g t cs w off _ hg
  rw [setAll_splice cur off cs hfit] at hh
  exact hK _ _ (h _ hh (out_setCells g cs w off))
/-- Bytes that a call may write and append to. -/
def BufB (w : World) (lo : Nat) (v : Value) (l : List UInt8) : Prop :=
  ∃ g cap, v = .slice (some ⟨g, 0, none⟩) l.length cap ∧ lo ≤ g ∧ g < w.heap.size ∧ l.length ≤ cap ∧ (∀ j, j < cap → (w.cell? ⟨g, j, none⟩).isSome = true ∧ w.frozen? ⟨g, j, none⟩ = false) ∧ ∀ (j : Nat) u, (bcells l)[j]? = some u → w.cell? ⟨g, j, none⟩ = some u
theorem BufB.kept {lo : Nat} {v : Value} {l : List UInt8} {w' : World} (h : BufB w lo v l) (hb : Below w.heap.size w w') : BufB w' lo v l := by
  obtain ⟨g, cap, h0, h1, h2, h3, h4, h5⟩ := h
  exact ⟨g, cap, h0, h1, Nat.lt_of_lt_of_le h2 hb.size, h3, fun j hj => ⟨by rw [hb.cell (p := ⟨g, j, none⟩) h2]; exact (h4 j hj).1, (hb.frozen (p := ⟨g, j, none⟩) h2).trans (h4 j hj).2⟩, fun j u hu => (hb.cell (p := ⟨g, j, none⟩) h2).trans (h5 j u hu)⟩
theorem BufB.conv {lo : Nat} {v : Value} {l : List UInt8} (h : BufB w lo v l) (src dst T : TypeId) (hs : P.underlying src = some (.slice T)) (he : P.underlying T = some (.int .u8)) (hd : P.underlying dst = some .string) :
    (convert src dst v).run P w = .ok (.string ⟨l.toArray⟩) w := by
  obtain ⟨g, cap, rfl, h1, h2, h3, h4, h5⟩ := h
  refine run_convert_bytes_back w src dst T _ cap l hs he hd fun j hj => ?_
  have e : (⟨g, 0, none⟩ : Addr).add j = ⟨g, j, none⟩ := by unfold Addr.add; split <;> simp_all
  rw [e]
  exact h5 j _ (by simp [bcells, List.getElem?_map, List.getElem?_eq_getElem hj])
/-- '[]byte(s)'. -/
theorem wpList_bytes_buf (hgd : o.guard = none) (x : Operand) (src dst T : TypeId) (ho : o.op = .convert src dst x)
    (hs : P.underlying src = some .string) (hd : P.underlying dst = some (.slice T)) (he : P.underlying T = some (.int .u8)) (s : ByteArray) (hx : a.eval x = .string s)
    (h : ∀ v w', BufB w' w.heap.size v s.data.toList → Below w.heap.size w w' → wpList P ops Q rest (a.put o.dst v) w') : wpList P ops Q (o :: rest) a w := by
  refine wpList_plain hgd fun K hK => ?_
  have hrun := run_bytes_of_string (P := P) w src dst T s hs hd he
  have hl : s.data.toList.length = s.size := by simp
  have hge := grownCap_ge w s.size 0 T
  have hsz : (bytesRow s (grownCap w s.size 0 T)).size = grownCap w s.size 0 T := by
    unfold bytesRow
    simp
    omega
  unfold Oper.wp
  simp [execOp, ho, hx, hrun, Result.andThen]
  refine hK _ _ (h _ _ ⟨w.heap.size, grownCap w s.size 0 T, by simp, Nat.le_refl _, by simp, by simpa using hge, fun j hj => ?_, fun j u hu => ?_⟩ ((Below.refl _ _).drew.alloc (Nat.le_refl _) _))
  · rw [show w.heap.size = w.drew.heap.size from rfl, World.cell?_alloc_mark, World.frozen?_alloc_mark, hsz]
    refine ⟨by rw [Array.getElem?_eq_getElem (by omega)]; rfl, by simp; omega⟩
  · have hj : j < s.data.size := by
      have := (List.getElem?_eq_some_iff.1 hu).1
      simpa [bcells] using this
    rw [show w.heap.size = w.drew.heap.size from rfl, World.cell?_alloc_mark, bytesRow_at _ _ _ hj]
    rw [← hu]
    simp [bcells, List.getElem?_map, Array.getElem?_toList, Array.getElem?_eq_getElem hj]
/-- append of one byte. -/
theorem wpList_append_buf (hgd : o.guard = none) (s x : Operand) (t : TypeId) (ho : o.op = .call { callee := .builtin .append, args := #[s, x], argTypes := #[t, t] })
    (e : TypeId) (i : TypeInfo) (ht : P.underlying t = some (.slice e)) (hi : P.info? e = some i) (hz : i.zero = some (.int .u8 0)) (hsize : i.size = 1) (hby : i.bytes = 1)
    (lo : Nat) (v : Value) (l : List UInt8) (hs : a.eval s = v) (hown : BufB w lo v l) (c : UInt8)
    (ad : Addr) (cp : Nat) (hx : a.eval x = .slice (some ad) 1 cp) (hc : w.cell? ad = some (.int .u8 (c.toNat : Int))) (hl : l.length + 1 ≤ 1000000) (hlo : lo ≤ w.heap.size)
    (h : ∀ v' w', BufB w' lo v' (l ++ [c]) → Out lo w.heap.size w w' → wpList P ops Q rest (a.put o.dst v') w') : wpList P ops Q (o :: rest) a w := by
  obtain ⟨g, cap, rfl, h1, h2, h3, h4, h5⟩ := hown
  have hadd : ad.add 0 = ad := by unfold Addr.add; split <;> first | rfl | (exfalso; simp_all)
  refine wpList_append_arg w hgd s x t ho e i (.int .u8 0) 1 1 ht hi hz hsize hby rfl (by decide) g 0 l.length cap (bcells l) hs (by simp [bcells]) (fun j u hu => by rw [Nat.zero_add]; exact h5 j u hu) ad 1 cp [.int .u8 (c.toNat : Int)] hx rfl (fun j u hu => ?_) (by simp [Value.oneCell']) (fun hr j hj => ?_) (by unfold maxLen; omega) (by omega) (fun hr => ?_) (fun hg v' w' ho' hgr => ?_)
  · rcases j with _ | j
    · simp at hu
      subst hu
      rw [hadd]
      exact hc
    · simp at hu
  · have hj' : j = 0 := by simp at hj; omega
    subst hj'
    rw [Nat.zero_add, Nat.mul_one, Nat.add_zero]
    exact h4 _ (by omega)
  · have hset : w.setCells g (0 + l.length * 1) [.int .u8 (c.toNat : Int)] = w.setCell ⟨g, l.length, none⟩ (.int .u8 (c.toNat : Int)) := by
      show w.setCell ⟨g, 0 + l.length * 1, none⟩ _ = _
      rw [Nat.zero_add, Nat.mul_one]
    rw [hset]
    obtain ⟨u0, hu0⟩ := Option.isSome_iff_exists.1 (h4 l.length (by omega)).1
    refine h _ _ ⟨g, cap, by simp, h1, by simpa using h2, by simp; omega, fun j hj => ⟨?_, ?_⟩, fun j u hu => ?_⟩ ((Out.refl lo w.heap.size w).setCell h1 h2 _)
    · by_cases hj' : l.length = j
      · subst hj'
        rw [World.cell?_setCell_same _ _ _ hu0]
        rfl
      · rw [World.cell?_setCell_other _ _ _ _ (by simp <;> omega)]
        exact (h4 j hj).1
    · rw [World.frozen?_setCell]
      exact (h4 j hj).2
    · rw [bcells_append] at hu
      rcases Nat.lt_or_ge j l.length with hj | hj
      · rw [List.getElem?_append_left (by simpa [bcells] using hj)] at hu
        rw [World.cell?_setCell_other _ _ _ _ (by simp <;> omega)]
        exact h5 j u hu
      · rw [List.getElem?_append_right (by simpa [bcells] using hj)] at hu
        have hj0 : j = l.length := by
          have := (List.getElem?_eq_some_iff.1 hu).1
          simp [bcells] at this
          omega
        subst hj0
        simp [bcells] at hu
        subst hu
        exact World.cell?_setCell_same _ _ _ hu0
  · have hlt := World.ownsRow.lt ho'
    have ho2 := ho'
    rcases ho'.2 with ⟨_, h0⟩ | ⟨g', cap', cur, rfl, hb, hh, hcap, hm, hsz, htk⟩
    · omega
    · refine h _ _ ⟨g', cap', by simp, Nat.le_trans hlo hb, (hlt g' rfl).2, by simpa using hcap, fun j hj => ⟨?_, frozen_of_row _ _ _ _ _ hh⟩, fun j u hu => ?_⟩ (Out.of_grown hgr fun k hk => by cases hk)
      · rw [cell_of_row _ _ _ _ _ (0, 0) hh, Array.getElem?_eq_getElem (by omega)]
        rfl
      · have hj : j < l.length + 1 := by
          have := (List.getElem?_eq_some_iff.1 hu).1
          simpa [bcells] using this
        rw [cell_of_row _ _ _ _ _ (0, 0) hh]
        have h6 : (cur.toList.take ((l.length + 1) * 1))[j]? = some u := by
          rw [htk, ← hu, bcells_append]
          rfl
        rw [List.getElem?_take] at h6
        split at h6
        · simpa using h6
        · cases h6
end
theorem filled_cells (H : List UInt8) (s : ByteArray) (h : H.length ≤ 8) :
    splice (splice (List.replicate 8 (Value.int .u8 255)) 0 (bcells H)) H.length ((bcells s.data.toList).take (Nat.min s.size (8 - H.length))) = bcells (fill8 (H ++ s.data.toList)) := by
  have h0 := two_splices (Value.int .u8 255) (bcells H) (bcells s.data.toList) (by simpa [bcells] using h)
  have e1 : (bcells H).length = H.length := by simp [bcells]
  have e2 : (bcells s.data.toList).length = s.size := by simp [bcells]
  rw [e1, e2] at h0
  rw [h0]
  unfold fill8 bcells
  rw [← List.map_append, List.map_take, List.map_append, List.map_append, List.map_append, List.map_replicate]
  rfl
set_option maxRecDepth 100000 in
set_option maxHeartbeats 4000000 in
theorem filled_any (b : Nat) (H : List UInt8) (s : ByteArray) (w : World) (h1 : 1 ≤ H.length) (h2 : H.length ≤ 2) (hc : ∀ j u, (bcells H)[j]? = some u → w.cell? ((⟨b, 0, none⟩ : Addr).add j) = some u) (hlt : b < w.heap.size) :
    Calls Try.prog 99 #[.slice (some ⟨b, 0, none⟩) H.length H.length, .string s] w fun e w' => e = .returned (.string ⟨(fill8 (H ++ s.data.toList)).toArray⟩) ∧ Below w.heap.size w w' := by
  have HC := Lib.hid hc
  have HF := Lib.hid (filled_cells H s (by omega))
  obtain ⟨n, hn⟩ : ∃ n, H.length = n := ⟨_, rfl⟩
  have HN := Lib.hid hn
  rw [hn] at h1 h2 HF ⊢
  clear hc hn
  have HE : Hid ((bcells H).length = n) := Lib.hid (by rw [← HN.out]; simp [bcells])
  obtain ⟨cs, hcs⟩ : ∃ cs, (bcells s.data.toList).take (Nat.min s.size (8 - n)) = cs := ⟨_, rfl⟩
  have HCS := Lib.hid hcs
  have HL : Hid (cs.length ≤ 8 - n) := Lib.hid (by rw [← hcs, List.length_take]; exact Nat.le_trans (Nat.min_le_left _ _) (Nat.min_le_right _ _))
  rw [hcs] at HF
  clear hcs
  go_enter Try.func99, Try.ntmps99
  go_wp2_with fail
  refine (repeat8_any _ _ 255 (cell_new1 _ _ _) (by simp)).mono ?_
  rintro e w2 ⟨G, rfl, hG, hg, hb⟩
  have HG := Lib.hid hg
  have HB := Lib.hid (((Below.refl w.heap.size w).alloc (Nat.le_refl _) (.cells #[.int .u8 255] 5)).trans (hb.mono (by simp)))
  have hGw : w.heap.size < G := by simp at hG; omega
  have HC2 := Lib.hid (fun j u hu => (HB.out.cell (p := (⟨b, 0, none⟩ : Addr).add j) (by unfold Addr.add; split <;> simpa using hlt)).trans (HC.out j u hu))
  clear hg hb hG HC
  go_wp2_with (first
    | (refine wpList_copy_h rfl (.tmp 9) (.tmp 10) 22 22 rfl 5 Try.underlying22 Repeat.one8 (some ⟨G, 0, none⟩) (some ⟨b, 0, none⟩) 8 8 n n rfl rfl G 0 _ 5 HG.out (bcells H) (by rw [HE.out]; exact (Nat.min_eq_left (by omega)).symm) (fun _ => ⟨rfl, ⟨b, 0, none⟩, rfl, HC2.out⟩) (by rw [HE.out, List.length_replicate]; omega) (bcells_one _) ?_; rw [HE.out]; intro w3 hg3 ho3; have HG3 := Lib.hid hg3; have HO3 := Lib.hid ho3; clear hg3 ho3)
    | (refine wpList_copy_str_h rfl (.tmp 14) (.tmp 15) 22 9 rfl 5 Try.underlying22 Repeat.one8 s rfl G n (8 - n) (8 - n) rfl cs HCS.out _ 5 HG3.out (by have := HL.out; rw [length_splice _ _ _ (by rw [HE.out, List.length_replicate]; omega), List.length_replicate]; omega) ?_; intro w4 hg4 ho4; rw [HF.out] at hg4; have HG4 := Lib.hid hg4; have HO4 := Lib.hid ho4; have hcv := conv_row (P := Try.prog) hg4 8 (fill8_length _).symm (by rw [List.take_of_length_le (by simp [bcells, fill8_length])]) 22 9 Try.underlying22 Try.underlying5 Try.underlying9; clear hg4 ho4))
  go_ret
  exact ⟨rfl, (HO3.out.trans HO4.out).below HB.out (Nat.le_of_lt hGw) HB.out.size⟩
set_option maxRecDepth 100000 in
set_option maxHeartbeats 4000000 in
theorem l06Fill_any (s : ByteArray) (w : World) (hs : s.size ≤ 8) :
    Calls Try.prog 103 #[.string s, .int .i64 8] w fun e w' => e = .returned (.string ⟨(fill8 s.data.toList).toArray⟩) ∧ Below w.heap.size w w' := by
  obtain ⟨i0, hi, hz0, hz1, hz2⟩ := info_parts Repeat.info8
  have HI := Lib.hid hi
  obtain ⟨S, hS⟩ : ∃ S, s.data.toList = S := ⟨_, rfl⟩
  have HS := Lib.hid hS
  have hSl : S.length = s.size := by rw [← hS]; simp
  rw [hS]
  clear hi hS
  go_enter Try.func103, Try.ntmps103
  go_wp2_with (refine wpList_bytes_buf rfl (.tmp 6) 9 22 5 rfl Try.underlying9 Try.underlying22 Try.underlying5 s rfl ?_; intro v w1 hv hb; have HV := Lib.hid hv; have HB := Lib.hid hb; clear hv hb)
  go_loopw [5] (fun v wr => ∃ (k : Nat) (V : Value), V = v ∧ S.length + k ≤ 8 ∧ BufB wr w.heap.size V (S ++ List.replicate k 255) ∧ Below w.heap.size w wr) (fun v _ => match v with | .slice _ n _ => 8 - n | _ => 0)
  case atStart => exact ⟨0, _, rfl, by omega, by rw [List.replicate_zero, List.append_nil, ← HS.out]; exact HV.out, HB.out⟩
  case round =>
    obtain ⟨k, V, rfl, hk, hv, hb⟩ := hrel
    have HVk := Lib.hid hv
    obtain ⟨g, cap, rfl, hg⟩ : ∃ g cap, V = .slice (some ⟨g, 0, none⟩) (S.length + k) cap ∧ True := by
      obtain ⟨g, cap, h0, _⟩ := hv
      exact ⟨g, cap, by rw [h0]; simp, trivial⟩
    clear hv hg
    obtain ⟨N, hN⟩ : ∃ N, S.length + k = N := ⟨_, rfl⟩
    have HN := Lib.hid hN
    rw [hN] at hk HVk ⊢
    clear hN
    by_cases hlt : N < 8
    · have hd : decide ((N : Int) < 8) = true := decide_eq_true (by omega)
      go_wp2_with (at_builtin; refine wpList_append_buf rfl (.tmp 12) (.tmp 13) 22 rfl 5 i0 Try.underlying22 HI.out hz0 hz1 hz2 w.heap.size _ _ rfl (HVk.out.kept ((Below.refl _ _).alloc (Nat.le_refl _) _)) 255 ⟨wr.heap.size, 0, none⟩ 1 rfl (cell_new1 _ _ _) (by have := HN.out; simp; omega) (by have := hb.size; simp; omega) ?_; intro v' w2 hv2 ho2; have HV2 := Lib.hid hv2; have HO2 := Lib.hid ho2; clear hv2 ho2)
      go_roundw
      case rel => exact ⟨k + 1, _, rfl, by have := HN.out; omega, by have h := HV2.out; rw [List.append_assoc] at h; rw [List.replicate_succ']; exact h, HO2.out.below ((hb.alloc hb.size _)) (Nat.le_refl _) (by have := hb.size; simp; omega)⟩
      case measure =>
        obtain ⟨g', cap', h0, _⟩ := HV2.out
        subst h0
        have := HN.out
        simp
        omega
    · have hd : decide ((N : Int) < 8) = false := decide_eq_false (by omega)
      have hcv := HVk.out.conv (P := Try.prog) 22 9 5 Try.underlying22 Try.underlying5 Try.underlying9
      have HX := Lib.hid (show S ++ List.replicate k 255 = fill8 S by
        have := HN.out
        unfold fill8
        rw [List.take_append, List.take_of_length_le (by omega), List.take_replicate]
        congr 2
        omega)
      go_wp2_with fail
      go_ret
      exact ⟨by rw [HX.out]; rfl, hb⟩
theorem l01Min_any (a b : Int) (w : World) :
    Calls Try.prog 168 #[.int .i64 a, .int .i64 b] w fun e w' => e = .returned (.int .i64 (if a < b then a else b)) ∧ w = w' := by
  by_cases h : a < b
  · have hd : decide (a < b) = true := decide_eq_true h
    rw [if_pos h]
    go_enter Try.func168, Try.ntmps168
    go_wp2
    go_ret
    exact ⟨rfl, rfl⟩
  · have hd : decide (a < b) = false := decide_eq_false h
    rw [if_neg h]
    go_enter Try.func168, Try.ntmps168
    go_wp2
    go_ret
    exact ⟨rfl, rfl⟩
end Go.Proofs.Ytanijfmfjabmfaa
