/- An address more among those that are taken: the program's, and the model's with its answer as numbers. Nothing that was there is written. -/
import Derived.Test.YtdhmcepnmbchkaaInsert
import Derived.Test.YtdhmcepnmbchkaaClaimNext
import Derived.Test.YtdhmcepnmbchkaaTaken
namespace Go.Proofs.Ytdhmcepnmbchkaa
open Go.RowKit
set_option linter.unusedVariables false

/-- What is taken behind a claim of x. -/
def takenI (l : List Int) (x : Int) : List Int := if inB 0 251 x = true then takeI l x else l
theorem takenI_rise {l : List Int} {x : Int} (h : riseB (-1) l = true) : riseB (-1) (takenI l x) = true := by
  unfold takenI
  split
  · rename_i hi
    have := inB_of hi
    exact takeI_rise h (by omega) this
  · exact h
theorem takenI_len {l : List Int} {x : Int} (h : riseB (-1) l = true) : (takenI l x).length ≤ 252 := by
  have := riseB_len (takenI_rise (x := x) h) (by omega)
  omega
theorem insert_any (base : Nat) (v : Value) (l : List Int) (vb k : Nat) (x : Int) (w : World) (h : w.ownsRow base 2 1 v l.length (ncells l)) (hx : w.heap[vb]? = some (.cells #[.int .i64 x] 2 (0, 0)))
    (hne : ∀ g, v.ownBlock = some g → vb ≠ g) (hk : k ≤ l.length) (hlen : l.length ≤ 1048576) (hbase : base ≤ w.heap.size) :
    Calls Try.prog 110 #[v, .int .i64 (k : Int), .slice (some ⟨vb, 0, none⟩) 1 1] w fun e w' => ∃ a' c', e = .returned (.slice a' (l.length + 1) c') ∧ NumsNew base w'.heap.size w' a' (l.take k ++ x :: l.drop k) ∧ Below base w w' := by
  rcases Nat.eq_or_lt_of_le hk with rfl | hlt
  · refine (insert_end base v l vb x w h hx hlen hbase).mono fun e w' ⟨v', he, ho, hb⟩ => ?_
    obtain ⟨a', c', rfl, _, hn⟩ := NumsNew.of_owns (l := l ++ [x]) (by simpa using ho)
    refine ⟨a', c', by rw [he]; simp, ?_, hb⟩
    rw [List.take_length, List.drop_length]
    exact hn
  · have hnew := h
    rcases h.2 with ⟨_, hn⟩ | ⟨g, cap, cur, rfl, hb, hg, hnc, hcm, hsz, ht⟩
    · omega
    · have hin : NumsIn w (some ⟨g, 0, none⟩) l := by
        obtain ⟨a', c', he, _, hn⟩ := NumsNew.of_owns hnew
        cases he
        exact hn.nums
      rcases Nat.lt_or_ge cap (l.length + 1) with hr | hr
      · exact insert_grow base g cap l.length k l vb x w hin rfl hx hlt hr hnc hlen hbase
      · obtain ⟨cl⟩ := cur
        exact insert_room base g cap l.length k cl l vb x w hg (by simpa using hsz) (by simpa using ht) rfl hx (hne g rfl) hlt hr hcm hb
set_option maxRecDepth 100000 in
set_option maxHeartbeats 4000000 in
theorem withTaken_any (a : Option Addr) (cap : Nat) (l : List Int) (x : Int) (w : World) (h : NumsIn w a l) (hlen : l.length ≤ 1048576) (hs : riseB (-1) l = true) (hx : 0 ≤ x) :
    Calls Try.prog 60 #[.slice a l.length cap, .int .i64 x] w fun e w' => ∃ a' c', e = .returned (.slice a' (takenI l x).length c') ∧ NumsNew w.heap.size w'.heap.size w' a' (takenI l x) ∧ Below w.heap.size w w' := by
  have HB := Lib.hid (search_any a cap l (-1) x w h hlen hs)
  have HC := Lib.hid (clone_new a cap l w h hlen)
  have HC2 := Lib.hid (clone_any a cap l w h hlen)
  rcases hd : decide (x ∈ l)
  · have hm : x ∉ l := by simpa using hd
    rw [hd] at HB
    by_cases h1 : 251 < x
    · have hT : takenI l x = l := by
        unfold takenI
        rw [if_neg]
        intro q
        have := inB_of q
        omega
      rw [hT]
      have hd1 : decide (251 < x) = true := decide_eq_true h1
      clear hT hm hd h1 hs h hlen
      go_enter Try.func60, Try.ntmps60
      go_wp2_with fail
      refine HB.out.mono ?_
      rintro e w1 ⟨rfl, rfl⟩
      go_wp2_with fail
      refine HC.out.mono ?_
      rintro e w2 ⟨a', c', rfl, hn, hb⟩
      go_wp2_with fail
      go_ret
      exact ⟨a', c', rfl, hn, hb⟩
    · have hT : takenI l x = l.take (cntI l x) ++ x :: l.drop (cntI l x) := by
        unfold takenI
        rw [if_pos (inB_yes hx (by omega)), takeI_out hm]
      have hk := cntI_le l x
      have hTl : (takenI l x).length = l.length + 1 := by rw [hT]; simp; omega
      have HT := Lib.hid hT
      have HTl := Lib.hid hTl
      have hd1 : decide (251 < x) = false := decide_eq_false h1
      have HIns := fun W v vb h1 h2 h3 h4 => Lib.hid (insert_any w.heap.size v l vb (cntI l x) x W h1 h2 h3 hk hlen h4)
      generalize cntI l x = k at *
      clear hT hTl hm hd h1 hs h hlen HC hk
      go_enter Try.func60, Try.ntmps60
      go_wp2_with fail
      refine HB.out.mono ?_
      rintro e w1 ⟨rfl, rfl⟩
      go_wp2_with fail
      refine HC2.out.mono ?_
      rintro e w2 ⟨v, rfl, ho, hb⟩
      have HO := Lib.hid ho
      have HB2 := Lib.hid hb
      clear ho hb
      go_wp2_with fail
      refine (HIns _ v w2.heap.size (HO.out.alloc _) (heap_alloc_new w2 _) (fun g hg => by have := (World.ownsRow.lt HO.out g hg).2; omega) (by have := HB2.out.size; simp; omega)).out.mono ?_
      rintro e w3 ⟨a', c', rfl, hn, hb3⟩
      go_wp2_with fail
      go_ret
      refine ⟨a', c', by rw [HTl.out]; rfl, by rw [HT.out]; exact hn, (HB2.out.alloc HB2.out.size _).trans hb3⟩
  · have hm : x ∈ l := by simpa using hd
    rw [hd] at HB
    have hT : takenI l x = l := by
      unfold takenI
      rw [if_pos (inB_yes hx ((riseB_mem hs x hm).2.2)), takeI_in hs hm]
    rw [hT]
    clear hT hm hd hs h hlen
    go_enter Try.func60, Try.ntmps60
    go_wp2_with fail
    refine HB.out.mono ?_
    rintro e w1 ⟨rfl, rfl⟩
    go_wp2_with fail
    refine HC.out.mono ?_
    rintro e w2 ⟨a', c', rfl, hn, hb⟩
    go_wp2_with fail
    go_ret
    exact ⟨a', c', rfl, hn, hb⟩
theorem l05Take_new (a : Option Addr) (cap : Nat) (l : List Int) (x : Int) (w : World) (h : NumsIn w a l) (hlen : l.length ≤ 1048576) (hcap : l.length ≤ cap) (hi : inB 0 251 x = true) :
    Calls Try.prog 113 #[.slice a l.length cap, .int .i64 x] w fun e w' => ∃ a' c', e = .returned (.slice a' (takenI l x).length c') ∧ NumsNew w.heap.size w'.heap.size w' a' (takenI l x) ∧ Below w.heap.size w w' :=
  (l05Take_any a cap l x w h hlen hcap).mono fun _ _ ⟨v, h1, h2, h3⟩ => by
    have e : takenI l x = takeI l x := by unfold takenI; rw [if_pos hi]
    rw [e]
    obtain ⟨a', c', rfl, _, hn⟩ := NumsNew.of_owns h2
    exact ⟨a', c', h1, hn, h3⟩
end Go.Proofs.Ytdhmcepnmbchkaa
