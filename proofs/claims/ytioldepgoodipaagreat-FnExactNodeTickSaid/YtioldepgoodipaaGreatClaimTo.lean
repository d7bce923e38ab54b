/- The laws' own size, copy, likeness, marks of numbers and of Claims. -/
import Derived.Test.YtioldepgoodipaaGreatClaimNew
import Derived.Test.YtioldepgoodipaaGreatTo
import Derived.Test.YtioldepgoodipaaGreatNumsTo
import Derived.Test.YtioldepgoodipaaGreatStep
namespace Go.Proofs.YtioldepgoodipaaGreat
open Go.RowKit
set_option linter.unusedVariables false

/-- The marks that markInt64S writes. -/
def nmarks (k N : Nat) : List Int := (List.range N).map fun i => ((k + i : Nat) : Int)
theorem nmarks_length (k N : Nat) : (nmarks k N).length = N := by simp [nmarks]
theorem nmarks_at {k N i : Nat} {x : Int} (h : (nmarks k N)[i]? = some x) : i < N ∧ x = ((k + i : Nat) : Int) := by
  have hi : i < N := by have := (List.getElem?_eq_some_iff.1 h).1; rwa [nmarks_length] at this
  refine ⟨hi, ?_⟩
  unfold nmarks at h
  rw [List.getElem?_map, List.getElem?_range hi] at h
  exact (Option.some.inj h).symm
theorem nmarks_get {k N i : Nat} (h : i < N) : (nmarks k N)[i]? = some ((k + i : Nat) : Int) := by
  unfold nmarks
  rw [List.getElem?_map, List.getElem?_range h]
  rfl
theorem toInt64S_let (a : Option Addr) (cap : Nat) (l : List Int) (w : World) (h : NumsIn w a l) (hlen : l.length ≤ 1048576) :
    Calls Tryz.prog 93 #[.slice a l.length cap] w fun e w' => ∃ g, e = .returned (.slice (some ⟨g, 0, none⟩) l.length l.length) ∧ NumsNew w.heap.size w'.heap.size w' (some ⟨g, 0, none⟩) l ∧ Below w.heap.size w w' :=
  (toInt64S_new a cap l w h hlen).mono fun _ _ ⟨h1, h2, h3⟩ => ⟨_, h1, h2, h3⟩
set_option maxHeartbeats 2000000 in
theorem markInt64S_any {lo hi : Nat} (a : Option Addr) (cap : Nat) (l : List Int) (k : Nat) (w : World) (h : NumsNew lo hi w a l) (hk0 : 0 < k) (hk : k + l.length ≤ 30000000) :
    Calls Tryz.prog 113 #[.slice a l.length cap, .int .i64 (k : Int)] w fun e w' => e = .returned (.int .i64 ((k + l.length : Nat) : Int)) ∧ NumsNew lo hi w' a (nmarks k l.length) ∧ Out lo hi w w' := by
  obtain ⟨N, hN⟩ : ∃ N, l.length = N := ⟨_, rfl⟩
  rcases Nat.eq_zero_or_pos N with hN0 | hN0
  · rw [hN]
    subst hN0
    clear hN hk h
    go_enter Tryz.func113, Tryz.ntmps113
    go_wp2
    refine wp_loop_rounds 1 ?_
    rw [rounds_succ]; go_wp2
    go_ret
    exact ⟨rfl, .inl rfl, Out.refl _ _ _⟩
  rcases h with rfl | ⟨b, o, rfl, hlo, hhi, hlt, hf, hc⟩
  · simp at hN
    omega
  have HC := Lib.hid (show ∀ j, j < N → (w.cell? ⟨b, o + j, none⟩).isSome = true ∧ w.frozen? ⟨b, o + j, none⟩ = false from fun j hj => by
    refine ⟨?_, hf j (by omega)⟩
    rw [hc j _ (numAt_some (by omega))]
    rfl)
  rw [hN] at hk ⊢
  clear hc hf hN
  go_enter Tryz.func113, Tryz.ntmps113
  go_wp2
  go_loopw [1, 5] (fun u i wr => ∃ m : Nat, i = .int .i64 (m : Int) ∧ u = .int .i64 ((k + m : Nat) : Int) ∧ m ≤ N ∧ Out lo hi w wr ∧
    (∀ j, j < m → wr.cell? ⟨b, o + j, none⟩ = some (.int .i64 ((k + j : Nat) : Int))) ∧
    (∀ j, j < N → (wr.cell? ⟨b, o + j, none⟩).isSome = true ∧ wr.frozen? ⟨b, o + j, none⟩ = false)) (fun _ i _ => N - (intOf i).toNat)
  case atStart => exact ⟨0, rfl, rfl, by omega, Out.refl _ _ _, fun j hj => absurd hj (by omega), HC.out⟩
  case round =>
    obtain ⟨m, rfl, rfl, hm, hb, hdone, hroom⟩ := hrel
    have HD := Lib.hid hdone
    have HR := Lib.hid hroom
    have hsz := hb.size
    clear hdone hroom
    by_cases hmn : m < N
    · obtain ⟨u0, e0⟩ := Option.isSome_iff_exists.1 (HR.out m hmn).1
      have g0 := (HR.out m hmn).2
      have hbw : b < wr.heap.size := by omega
      obtain ⟨k2, hk2⟩ : ∃ k2, k + (m + 1) = k2 := ⟨_, rfl⟩
      have hw1 : IntKind.i64.wrap (((k + m : Nat) : Int) + 1) = (k2 : Int) := by rw [IntWalk.i64_in _ (by omega)]; omega
      have HK := Lib.hid hk2
      clear hk2
      obtain ⟨k0, hk0'⟩ : ∃ k0, k + m = k0 := ⟨_, rfl⟩
      have HK0 := Lib.hid hk0'
      rw [hk0'] at hw1 ⊢
      clear hk0'
      have hi1 : (0 : Int) ≤ (m : Int) := by omega
      have hi2 : (m : Int) < (N : Int) := by omega
      go_wp2
      go_roundw
      case rel =>
        refine ⟨m + 1, by go_num, by rw [HK.out], by omega, hb.setCell (p := ⟨b, o + m, none⟩) hlo hhi _, fun j hj => ?_, fun j hj => ?_⟩
        · rcases Nat.lt_or_ge j m with h | h
          · rw [World.cell?_setCell_other _ _ _ _ (by simp <;> omega)]
            exact HD.out j h
          · obtain rfl : j = m := by omega
            rw [HK0.out]
            exact World.cell?_setCell_same _ _ _ e0
        · refine ⟨?_, by rw [World.frozen?_setCell]; exact (HR.out j hj).2⟩
          by_cases q : j = m
          · subst q
            rw [World.cell?_setCell_same _ _ _ e0]
            rfl
          · rw [World.cell?_setCell_other _ _ _ _ (by simp <;> omega)]
            exact (HR.out j hj).1
      case measure => simp [intOf]; omega
    · have hge : N ≤ m := by omega
      have HR' := HR
      go_wp2
      go_ret
      exact ⟨by rw [show N = m by omega]; rfl, .inr ⟨b, o, rfl, hlo, hhi, by omega, fun j hj => (HR.out j (by rw [nmarks_length] at hj; exact hj)).2, fun i x hx => by
        obtain ⟨hi, rfl⟩ := nmarks_at hx
        exact HD.out i (by omega)⟩, hb⟩
set_option maxHeartbeats 2000000 in
theorem heldInt64S_any (a : Option Addr) (cap : Nat) (N : Nat) (k : Nat) (w : World) (h : NumsIn w a (nmarks k N)) (hk0 : 0 < k) (hk : k + N ≤ 30000000) :
    Calls Tryz.prog 174 #[.slice a N cap, .int .i64 (k : Int)] w fun e w' => e = .returned (.int .i64 ((k + N : Nat) : Int)) ∧ w = w' := by
  rcases Nat.eq_zero_or_pos N with hN0 | hN0
  · subst hN0
    clear h
    go_enter Tryz.func174, Tryz.ntmps174
    go_wp2
    refine wp_loop_rounds 1 ?_
    rw [rounds_succ]; go_wp2
    go_ret
    exact ⟨rfl, rfl⟩
  rcases h with h | ⟨b, o, rfl, hlt, hc⟩
  · have := nmarks_length k N
    rw [h] at this
    simp at this
    omega
  have HI := Lib.hid hc
  clear hc
  go_enter Tryz.func174, Tryz.ntmps174
  go_wp2
  go_loopw [1, 5] (fun u i wr => ∃ m : Nat, i = .int .i64 (m : Int) ∧ u = .int .i64 ((k + m : Nat) : Int) ∧ m ≤ N ∧ w = wr) (fun _ i _ => N - (intOf i).toNat)
  case atStart => exact ⟨0, rfl, rfl, by omega, rfl⟩
  case round =>
    obtain ⟨m, rfl, rfl, hm, rfl⟩ := hrel
    by_cases hmn : m < N
    · have d0 := HI.out m _ (nmarks_get hmn)
      obtain ⟨k2, hk2⟩ : ∃ k2, k + (m + 1) = k2 := ⟨_, rfl⟩
      have hw1 : IntKind.i64.wrap (((k + m : Nat) : Int) + 1) = (k2 : Int) := by rw [IntWalk.i64_in _ (by omega)]; omega
      have HK := Lib.hid hk2
      clear hk2
      generalize k + m = k0 at *
      have hi1 : (0 : Int) ≤ (m : Int) := by omega
      have hi2 : (m : Int) < (N : Int) := by omega
      go_wp2
      go_roundw
      case rel => exact ⟨m + 1, by go_num, by rw [HK.out], by omega, by first | rfl | trivial⟩
      case measure => simp [intOf]; omega
    · have hge : N ≤ m := by omega
      go_wp2
      go_ret
      exact ⟨by rw [show N = m by omega]; rfl, rfl⟩
set_option maxRecDepth 100000 in
set_option maxHeartbeats 4000000 in
theorem szClaim_any (n : Nm) (ad st lf : Int) (a : Option Addr) (N cap : Nat) (w : World) (hn : N ≤ maxLen) :
    Calls Tryz.prog 25 #[clV n ad st lf (.slice a N cap), .int .i64 1048576] w fun e w' => ∃ m : Int, e = .returned (.int .i64 m) ∧ (0 ≤ m → N ≤ 1048576) ∧ Below w.heap.size w w' := by
  have HS := fun W => Lib.hid (szInt64S_any a cap N W hn)
  obtain ⟨n0, n1, n2, n3, n4, n5, n6, n7⟩ := n
  unfold clV
  dsimp only
  clear hn
  go_enter Tryz.func25, Tryz.ntmps25
  go_wp2_with (first
    | (refine wpList_box_h rfl 26 (.tmp 0) rfl #[.int .i64 n0, .int .i64 n1, .int .i64 n2, .int .i64 n3, .int .i64 n4, .int .i64 n5, .int .i64 n6, .bool n7, .int .i64 ad, .int .i64 st, .int .i64 lf, .slice a N cap] rfl ?_; intro w1 R1 e1 g1 b1; have HL1 := Lib.hid (show Lv w w1 [(R1, #[.int .i64 n0, .int .i64 n1, .int .i64 n2, .int .i64 n3, .int .i64 n4, .int .i64 n5, .int .i64 n6, .bool n7, .int .i64 ad, .int .i64 st, .int .i64 lf, .slice a N cap], 26)] [] from (Lv.first w).box e1 g1 b1); clear g1 b1 e1)
    | (refine wpList_load_one rfl 24 (.tmp 5) rfl (R1) 11 rfl 26 #[.int .i64 n0, .int .i64 n1, .int .i64 n2, .int .i64 n3, .int .i64 n4, .int .i64 n5, .int .i64 n6, .bool n7, .int .i64 ad, .int .i64 st, .int .i64 lf, .slice a N cap] (0, 0) (HL1.out.get (.head _)) (.slice a N cap) rfl _ Tryz.underlying24 rfl (by kernel_rfl) ?_))
  refine (HS _).out.mono ?_
  rintro e w' ⟨m, rfl, hm, rfl⟩
  by_cases hneg : m < 0
  · have hd : decide (m < 0) = true := decide_eq_true hneg
    go_wp2_with fail
    go_ret
    exact ⟨-1, rfl, fun q => absurd q (by omega), HL1.out.below⟩
  · have hd : decide (m < 0) = false := decide_eq_false hneg
    go_wp2_with fail
    go_ret
    exact ⟨m, rfl, hm, HL1.out.below⟩
set_option maxRecDepth 100000 in
set_option maxHeartbeats 4000000 in
theorem toClaim_new (n : Nm) (ad st lf : Int) (a : Option Addr) (cap : Nat) (l : List Int) (w : World) (h : NumsIn w a l) (hlen : l.length ≤ 1048576) :
    Calls Tryz.prog 39 #[clV n ad st lf (.slice a l.length cap)] w fun e w' => ∃ g, e = .returned (clV n ad st lf (.slice (some ⟨g, 0, none⟩) l.length l.length)) ∧ NumsNew w.heap.size w'.heap.size w' (some ⟨g, 0, none⟩) l ∧ Below w.heap.size w w' := by
  have HT := fun W hW => Lib.hid (toInt64S_let a cap l W hW hlen)
  have HN := fun W => Lib.hid (toName_any n W)
  have HI := Lib.hid h
  clear h hlen
  generalize l.length = N at *
  obtain ⟨n0, n1, n2, n3, n4, n5, n6, n7⟩ := n
  unfold clV
  unfold nmV at HN
  dsimp only at *
  go_enter Tryz.func39, Tryz.ntmps39
  go_wp2_with (first
    | (refine wpList_box_h rfl 26 (.tmp 0) rfl #[.int .i64 n0, .int .i64 n1, .int .i64 n2, .int .i64 n3, .int .i64 n4, .int .i64 n5, .int .i64 n6, .bool n7, .int .i64 ad, .int .i64 st, .int .i64 lf, .slice a N cap] rfl ?_; intro w1 R1 e1 g1 b1; have HL1 := Lib.hid (show Lv w w1 [(R1, #[.int .i64 n0, .int .i64 n1, .int .i64 n2, .int .i64 n3, .int .i64 n4, .int .i64 n5, .int .i64 n6, .bool n7, .int .i64 ad, .int .i64 st, .int .i64 lf, .slice a N cap], 26)] [] from (Lv.first w).box e1 g1 b1); clear g1 b1 e1)
    | (refine wpList_alloc_h rfl 40 rfl (.agg #[.int .i64 0, .int .i64 0, .int .i64 0, .int .i64 0, .int .i64 0, .int .i64 0, .int .i64 0, .bool false, .int .i64 0, .int .i64 0, .int .i64 0, .slice none 0 0]) (by kernel_rfl) #[.int .i64 0, .int .i64 0, .int .i64 0, .int .i64 0, .int .i64 0, .int .i64 0, .int .i64 0, .bool false, .int .i64 0, .int .i64 0, .int .i64 0, .slice none 0 0] rfl ?_; intro w2 R2 e2 g2 b2; have qR2_R1 : R1 < R2 := Nat.lt_of_lt_of_eq (HL1.out.lt (.head _)) e2; have HL2 := Lib.hid (show Lv w w2 [(R2, #[.int .i64 0, .int .i64 0, .int .i64 0, .int .i64 0, .int .i64 0, .int .i64 0, .int .i64 0, .bool false, .int .i64 0, .int .i64 0, .int .i64 0, .slice none 0 0], 40), (R1, #[.int .i64 n0, .int .i64 n1, .int .i64 n2, .int .i64 n3, .int .i64 n4, .int .i64 n5, .int .i64 n6, .bool n7, .int .i64 ad, .int .i64 st, .int .i64 lf, .slice a N cap], 26)] [] from HL1.out.box e2 g2 b2); clear g2 b2 e2)
    | (refine wpList_alloc_h rfl 40 rfl (.agg #[.int .i64 0, .int .i64 0, .int .i64 0, .int .i64 0, .int .i64 0, .int .i64 0, .int .i64 0, .bool false, .int .i64 0, .int .i64 0, .int .i64 0, .slice none 0 0]) (by kernel_rfl) #[.int .i64 0, .int .i64 0, .int .i64 0, .int .i64 0, .int .i64 0, .int .i64 0, .int .i64 0, .bool false, .int .i64 0, .int .i64 0, .int .i64 0, .slice none 0 0] rfl ?_; intro w3 R3 e3 g3 b3; have qR3_R2 : R2 < R3 := Nat.lt_of_lt_of_eq (HL2.out.lt (.head _)) e3; have qR3_R1 : R1 < R3 := Nat.lt_of_lt_of_eq (HL2.out.lt (.tail _ (.head _))) e3; have HL3 := Lib.hid (show Lv w w3 [(R3, #[.int .i64 0, .int .i64 0, .int .i64 0, .int .i64 0, .int .i64 0, .int .i64 0, .int .i64 0, .bool false, .int .i64 0, .int .i64 0, .int .i64 0, .slice none 0 0], 40), (R2, #[.int .i64 0, .int .i64 0, .int .i64 0, .int .i64 0, .int .i64 0, .int .i64 0, .int .i64 0, .bool false, .int .i64 0, .int .i64 0, .int .i64 0, .slice none 0 0], 40), (R1, #[.int .i64 n0, .int .i64 n1, .int .i64 n2, .int .i64 n3, .int .i64 n4, .int .i64 n5, .int .i64 n6, .bool n7, .int .i64 ad, .int .i64 st, .int .i64 lf, .slice a N cap], 26)] [] from HL2.out.box e3 g3 b3); clear g3 b3 e3)
    | (refine wpList_load_at rfl 23 (.tmp 4) rfl (R1) 0 rfl 26 #[.int .i64 n0, .int .i64 n1, .int .i64 n2, .int .i64 n3, .int .i64 n4, .int .i64 n5, .int .i64 n6, .bool n7, .int .i64 ad, .int .i64 st, .int .i64 lf, .slice a N cap] (0, 0) (HL3.out.get (.tail _ (.tail _ (.head _)))) [.int .i64 n0, .int .i64 n1, .int .i64 n2, .int .i64 n3, .int .i64 n4, .int .i64 n5, .int .i64 n6, .bool n7] rfl _ Tryz.underlying23 rfl (by kernel_rfl) ?_)
    | (go_at_call 92; refine ((HN _).out).mono ?_; rintro e w4 ⟨rfl, h⟩; have HL4 := Lib.hid (show Lv w w4 [(R3, #[.int .i64 0, .int .i64 0, .int .i64 0, .int .i64 0, .int .i64 0, .int .i64 0, .int .i64 0, .bool false, .int .i64 0, .int .i64 0, .int .i64 0, .slice none 0 0], 40), (R2, #[.int .i64 0, .int .i64 0, .int .i64 0, .int .i64 0, .int .i64 0, .int .i64 0, .int .i64 0, .bool false, .int .i64 0, .int .i64 0, .int .i64 0, .slice none 0 0], 40), (R1, #[.int .i64 n0, .int .i64 n1, .int .i64 n2, .int .i64 n3, .int .i64 n4, .int .i64 n5, .int .i64 n6, .bool n7, .int .i64 ad, .int .i64 st, .int .i64 lf, .slice a N cap], 26)] [] from HL3.out.kept h); clear h)
    | (refine wpList_put_at rfl 38 (.tmp 7) (.tmp 6) rfl rfl (R3) 0 rfl (.agg #[.int .i64 n0, .int .i64 n1, .int .i64 n2, .int .i64 n3, .int .i64 n4, .int .i64 n5, .int .i64 n6, .bool n7]) rfl #[.int .i64 n0, .int .i64 n1, .int .i64 n2, .int .i64 n3, .int .i64 n4, .int .i64 n5, .int .i64 n6, .bool n7] rfl 40 #[.int .i64 0, .int .i64 0, .int .i64 0, .int .i64 0, .int .i64 0, .int .i64 0, .int .i64 0, .bool false, .int .i64 0, .int .i64 0, .int .i64 0, .slice none 0 0] #[.int .i64 n0, .int .i64 n1, .int .i64 n2, .int .i64 n3, .int .i64 n4, .int .i64 n5, .int .i64 n6, .bool n7, .int .i64 0, .int .i64 0, .int .i64 0, .slice none 0 0] (HL4.out.get (.head _)) (by kernel_rfl) (by kernel_rfl) (by kernel_rfl) (by kernel_rfl) ?_; intro w5 g5 o5; have HL5 := Lib.hid (show Lv w w5 [(R3, #[.int .i64 n0, .int .i64 n1, .int .i64 n2, .int .i64 n3, .int .i64 n4, .int .i64 n5, .int .i64 n6, .bool n7, .int .i64 0, .int .i64 0, .int .i64 0, .slice none 0 0], 40), (R2, #[.int .i64 0, .int .i64 0, .int .i64 0, .int .i64 0, .int .i64 0, .int .i64 0, .int .i64 0, .bool false, .int .i64 0, .int .i64 0, .int .i64 0, .slice none 0 0], 40), (R1, #[.int .i64 n0, .int .i64 n1, .int .i64 n2, .int .i64 n3, .int .i64 n4, .int .i64 n5, .int .i64 n6, .bool n7, .int .i64 ad, .int .i64 st, .int .i64 lf, .slice a N cap], 26)] [] from HL4.out.put 0 rfl g5 o5 (List.forall_mem_cons.2 ⟨Nat.ne_of_lt qR3_R2, (List.forall_mem_cons.2 ⟨Nat.ne_of_lt qR3_R1, (fun _ h => nomatch h)⟩)⟩) (fun _ h => nomatch h) rfl); clear g5 o5)
    | (refine wpList_load_one rfl 2 (.tmp 8) rfl (R1) 8 rfl 26 #[.int .i64 n0, .int .i64 n1, .int .i64 n2, .int .i64 n3, .int .i64 n4, .int .i64 n5, .int .i64 n6, .bool n7, .int .i64 ad, .int .i64 st, .int .i64 lf, .slice a N cap] (0, 0) (HL5.out.get (.tail _ (.tail _ (.head _)))) (.int .i64 ad) rfl _ Tryz.underlying2 rfl (by kernel_rfl) ?_)
    | (refine wpList_put_at rfl 2 (.tmp 10) (.tmp 9) rfl rfl (R3) 8 rfl (.int .i64 ad) rfl #[.int .i64 ad] rfl 40 #[.int .i64 n0, .int .i64 n1, .int .i64 n2, .int .i64 n3, .int .i64 n4, .int .i64 n5, .int .i64 n6, .bool n7, .int .i64 0, .int .i64 0, .int .i64 0, .slice none 0 0] #[.int .i64 n0, .int .i64 n1, .int .i64 n2, .int .i64 n3, .int .i64 n4, .int .i64 n5, .int .i64 n6, .bool n7, .int .i64 ad, .int .i64 0, .int .i64 0, .slice none 0 0] (HL5.out.get (.head _)) (by kernel_rfl) (by kernel_rfl) (by kernel_rfl) (by kernel_rfl) ?_; intro w6 g6 o6; have HL6 := Lib.hid (show Lv w w6 [(R3, #[.int .i64 n0, .int .i64 n1, .int .i64 n2, .int .i64 n3, .int .i64 n4, .int .i64 n5, .int .i64 n6, .bool n7, .int .i64 ad, .int .i64 0, .int .i64 0, .slice none 0 0], 40), (R2, #[.int .i64 0, .int .i64 0, .int .i64 0, .int .i64 0, .int .i64 0, .int .i64 0, .int .i64 0, .bool false, .int .i64 0, .int .i64 0, .int .i64 0, .slice none 0 0], 40), (R1, #[.int .i64 n0, .int .i64 n1, .int .i64 n2, .int .i64 n3, .int .i64 n4, .int .i64 n5, .int .i64 n6, .bool n7, .int .i64 ad, .int .i64 st, .int .i64 lf, .slice a N cap], 26)] [] from HL5.out.put 0 rfl g6 o6 (List.forall_mem_cons.2 ⟨Nat.ne_of_lt qR3_R2, (List.forall_mem_cons.2 ⟨Nat.ne_of_lt qR3_R1, (fun _ h => nomatch h)⟩)⟩) (fun _ h => nomatch h) rfl); clear g6 o6)
    | (refine wpList_load_one rfl 2 (.tmp 11) rfl (R1) 9 rfl 26 #[.int .i64 n0, .int .i64 n1, .int .i64 n2, .int .i64 n3, .int .i64 n4, .int .i64 n5, .int .i64 n6, .bool n7, .int .i64 ad, .int .i64 st, .int .i64 lf, .slice a N cap] (0, 0) (HL6.out.get (.tail _ (.tail _ (.head _)))) (.int .i64 st) rfl _ Tryz.underlying2 rfl (by kernel_rfl) ?_)
    | (refine wpList_put_at rfl 2 (.tmp 13) (.tmp 12) rfl rfl (R3) 9 rfl (.int .i64 st) rfl #[.int .i64 st] rfl 40 #[.int .i64 n0, .int .i64 n1, .int .i64 n2, .int .i64 n3, .int .i64 n4, .int .i64 n5, .int .i64 n6, .bool n7, .int .i64 ad, .int .i64 0, .int .i64 0, .slice none 0 0] #[.int .i64 n0, .int .i64 n1, .int .i64 n2, .int .i64 n3, .int .i64 n4, .int .i64 n5, .int .i64 n6, .bool n7, .int .i64 ad, .int .i64 st, .int .i64 0, .slice none 0 0] (HL6.out.get (.head _)) (by kernel_rfl) (by kernel_rfl) (by kernel_rfl) (by kernel_rfl) ?_; intro w7 g7 o7; have HL7 := Lib.hid (show Lv w w7 [(R3, #[.int .i64 n0, .int .i64 n1, .int .i64 n2, .int .i64 n3, .int .i64 n4, .int .i64 n5, .int .i64 n6, .bool n7, .int .i64 ad, .int .i64 st, .int .i64 0, .slice none 0 0], 40), (R2, #[.int .i64 0, .int .i64 0, .int .i64 0, .int .i64 0, .int .i64 0, .int .i64 0, .int .i64 0, .bool false, .int .i64 0, .int .i64 0, .int .i64 0, .slice none 0 0], 40), (R1, #[.int .i64 n0, .int .i64 n1, .int .i64 n2, .int .i64 n3, .int .i64 n4, .int .i64 n5, .int .i64 n6, .bool n7, .int .i64 ad, .int .i64 st, .int .i64 lf, .slice a N cap], 26)] [] from HL6.out.put 0 rfl g7 o7 (List.forall_mem_cons.2 ⟨Nat.ne_of_lt qR3_R2, (List.forall_mem_cons.2 ⟨Nat.ne_of_lt qR3_R1, (fun _ h => nomatch h)⟩)⟩) (fun _ h => nomatch h) rfl); clear g7 o7)
    | (refine wpList_load_one rfl 2 (.tmp 14) rfl (R1) 10 rfl 26 #[.int .i64 n0, .int .i64 n1, .int .i64 n2, .int .i64 n3, .int .i64 n4, .int .i64 n5, .int .i64 n6, .bool n7, .int .i64 ad, .int .i64 st, .int .i64 lf, .slice a N cap] (0, 0) (HL7.out.get (.tail _ (.tail _ (.head _)))) (.int .i64 lf) rfl _ Tryz.underlying2 rfl (by kernel_rfl) ?_)
    | (refine wpList_put_at rfl 2 (.tmp 16) (.tmp 15) rfl rfl (R3) 10 rfl (.int .i64 lf) rfl #[.int .i64 lf] rfl 40 #[.int .i64 n0, .int .i64 n1, .int .i64 n2, .int .i64 n3, .int .i64 n4, .int .i64 n5, .int .i64 n6, .bool n7, .int .i64 ad, .int .i64 st, .int .i64 0, .slice none 0 0] #[.int .i64 n0, .int .i64 n1, .int .i64 n2, .int .i64 n3, .int .i64 n4, .int .i64 n5, .int .i64 n6, .bool n7, .int .i64 ad, .int .i64 st, .int .i64 lf, .slice none 0 0] (HL7.out.get (.head _)) (by kernel_rfl) (by kernel_rfl) (by kernel_rfl) (by kernel_rfl) ?_; intro w8 g8 o8; have HL8 := Lib.hid (show Lv w w8 [(R3, #[.int .i64 n0, .int .i64 n1, .int .i64 n2, .int .i64 n3, .int .i64 n4, .int .i64 n5, .int .i64 n6, .bool n7, .int .i64 ad, .int .i64 st, .int .i64 lf, .slice none 0 0], 40), (R2, #[.int .i64 0, .int .i64 0, .int .i64 0, .int .i64 0, .int .i64 0, .int .i64 0, .int .i64 0, .bool false, .int .i64 0, .int .i64 0, .int .i64 0, .slice none 0 0], 40), (R1, #[.int .i64 n0, .int .i64 n1, .int .i64 n2, .int .i64 n3, .int .i64 n4, .int .i64 n5, .int .i64 n6, .bool n7, .int .i64 ad, .int .i64 st, .int .i64 lf, .slice a N cap], 26)] [] from HL7.out.put 0 rfl g8 o8 (List.forall_mem_cons.2 ⟨Nat.ne_of_lt qR3_R2, (List.forall_mem_cons.2 ⟨Nat.ne_of_lt qR3_R1, (fun _ h => nomatch h)⟩)⟩) (fun _ h => nomatch h) rfl); clear g8 o8)
    | (refine wpList_load_one rfl 24 (.tmp 17) rfl (R1) 11 rfl 26 #[.int .i64 n0, .int .i64 n1, .int .i64 n2, .int .i64 n3, .int .i64 n4, .int .i64 n5, .int .i64 n6, .bool n7, .int .i64 ad, .int .i64 st, .int .i64 lf, .slice a N cap] (0, 0) (HL8.out.get (.tail _ (.tail _ (.head _)))) (.slice a N cap) rfl _ Tryz.underlying24 rfl (by kernel_rfl) ?_)
    | (go_at_call 93; refine ((HT _ (HI.out.kept HL8.out.below)).out).mono ?_; rintro e w9 ⟨g, rfl, hn, h⟩; obtain ⟨L9, e9⟩ : ∃ x, w8.heap.size = x := ⟨_, rfl⟩; obtain ⟨H9, f9⟩ : ∃ x, w9.heap.size = x := ⟨_, rfl⟩; have qL9_R3 : R3 < L9 := Nat.lt_of_lt_of_eq (HL8.out.lt (.head _)) e9; have qL9_R2 : R2 < L9 := Nat.lt_of_lt_of_eq (HL8.out.lt (.tail _ (.head _))) e9; have qL9_R1 : R1 < L9 := Nat.lt_of_lt_of_eq (HL8.out.lt (.tail _ (.tail _ (.head _)))) e9; have qH9_L9 : L9 ≤ H9 := (by rw [← e9, ← f9]; exact h.size); have HL9 := Lib.hid (show Lv w w9 [(R3, #[.int .i64 n0, .int .i64 n1, .int .i64 n2, .int .i64 n3, .int .i64 n4, .int .i64 n5, .int .i64 n6, .bool n7, .int .i64 ad, .int .i64 st, .int .i64 lf, .slice none 0 0], 40), (R2, #[.int .i64 0, .int .i64 0, .int .i64 0, .int .i64 0, .int .i64 0, .int .i64 0, .int .i64 0, .bool false, .int .i64 0, .int .i64 0, .int .i64 0, .slice none 0 0], 40), (R1, #[.int .i64 n0, .int .i64 n1, .int .i64 n2, .int .i64 n3, .int .i64 n4, .int .i64 n5, .int .i64 n6, .bool n7, .int .i64 ad, .int .i64 st, .int .i64 lf, .slice a N cap], 26)] [(L9, H9, some ⟨g, 0, none⟩, l)] from HL8.out.made e9 f9 h hn); clear h hn e9 f9)
    | (refine wpList_put_at rfl 24 (.tmp 20) (.tmp 19) rfl rfl (R3) 11 rfl (.slice (some ⟨g, 0, none⟩) N N) rfl #[.slice (some ⟨g, 0, none⟩) N N] rfl 40 #[.int .i64 n0, .int .i64 n1, .int .i64 n2, .int .i64 n3, .int .i64 n4, .int .i64 n5, .int .i64 n6, .bool n7, .int .i64 ad, .int .i64 st, .int .i64 lf, .slice none 0 0] #[.int .i64 n0, .int .i64 n1, .int .i64 n2, .int .i64 n3, .int .i64 n4, .int .i64 n5, .int .i64 n6, .bool n7, .int .i64 ad, .int .i64 st, .int .i64 lf, .slice (some ⟨g, 0, none⟩) N N] (HL9.out.get (.head _)) (by kernel_rfl) (by kernel_rfl) (by kernel_rfl) (by kernel_rfl) ?_; intro w10 g10 o10; have HL10 := Lib.hid (show Lv w w10 [(R3, #[.int .i64 n0, .int .i64 n1, .int .i64 n2, .int .i64 n3, .int .i64 n4, .int .i64 n5, .int .i64 n6, .bool n7, .int .i64 ad, .int .i64 st, .int .i64 lf, .slice (some ⟨g, 0, none⟩) N N], 40), (R2, #[.int .i64 0, .int .i64 0, .int .i64 0, .int .i64 0, .int .i64 0, .int .i64 0, .int .i64 0, .bool false, .int .i64 0, .int .i64 0, .int .i64 0, .slice none 0 0], 40), (R1, #[.int .i64 n0, .int .i64 n1, .int .i64 n2, .int .i64 n3, .int .i64 n4, .int .i64 n5, .int .i64 n6, .bool n7, .int .i64 ad, .int .i64 st, .int .i64 lf, .slice a N cap], 26)] [(L9, H9, some ⟨g, 0, none⟩, l)] from HL9.out.put 0 rfl g10 o10 (List.forall_mem_cons.2 ⟨Nat.ne_of_lt qR3_R2, (List.forall_mem_cons.2 ⟨Nat.ne_of_lt qR3_R1, (fun _ h => nomatch h)⟩)⟩) (List.forall_mem_cons.2 ⟨.inr qL9_R3, (fun _ h => nomatch h)⟩) rfl); clear g10 o10)
    | (refine wpList_load_at rfl 40 (.tmp 3) rfl (R3) 0 rfl 40 #[.int .i64 n0, .int .i64 n1, .int .i64 n2, .int .i64 n3, .int .i64 n4, .int .i64 n5, .int .i64 n6, .bool n7, .int .i64 ad, .int .i64 st, .int .i64 lf, .slice (some ⟨g, 0, none⟩) N N] (0, 0) (HL10.out.get (.head _)) [.int .i64 n0, .int .i64 n1, .int .i64 n2, .int .i64 n3, .int .i64 n4, .int .i64 n5, .int .i64 n6, .bool n7, .int .i64 ad, .int .i64 st, .int .i64 lf, .slice (some ⟨g, 0, none⟩) N N] rfl _ Tryz.underlying40 rfl (by kernel_rfl) ?_)
    | (refine wpList_put_at rfl 40 (.tmp 2) (.tmp 21) rfl rfl (R2) 0 rfl (.agg #[.int .i64 n0, .int .i64 n1, .int .i64 n2, .int .i64 n3, .int .i64 n4, .int .i64 n5, .int .i64 n6, .bool n7, .int .i64 ad, .int .i64 st, .int .i64 lf, .slice (some ⟨g, 0, none⟩) N N]) rfl #[.int .i64 n0, .int .i64 n1, .int .i64 n2, .int .i64 n3, .int .i64 n4, .int .i64 n5, .int .i64 n6, .bool n7, .int .i64 ad, .int .i64 st, .int .i64 lf, .slice (some ⟨g, 0, none⟩) N N] rfl 40 #[.int .i64 0, .int .i64 0, .int .i64 0, .int .i64 0, .int .i64 0, .int .i64 0, .int .i64 0, .bool false, .int .i64 0, .int .i64 0, .int .i64 0, .slice none 0 0] #[.int .i64 n0, .int .i64 n1, .int .i64 n2, .int .i64 n3, .int .i64 n4, .int .i64 n5, .int .i64 n6, .bool n7, .int .i64 ad, .int .i64 st, .int .i64 lf, .slice (some ⟨g, 0, none⟩) N N] (HL10.out.get (.tail _ (.head _))) (by kernel_rfl) (by kernel_rfl) (by kernel_rfl) (by kernel_rfl) ?_; intro w11 g11 o11; have HL11 := Lib.hid (show Lv w w11 [(R3, #[.int .i64 n0, .int .i64 n1, .int .i64 n2, .int .i64 n3, .int .i64 n4, .int .i64 n5, .int .i64 n6, .bool n7, .int .i64 ad, .int .i64 st, .int .i64 lf, .slice (some ⟨g, 0, none⟩) N N], 40), (R2, #[.int .i64 n0, .int .i64 n1, .int .i64 n2, .int .i64 n3, .int .i64 n4, .int .i64 n5, .int .i64 n6, .bool n7, .int .i64 ad, .int .i64 st, .int .i64 lf, .slice (some ⟨g, 0, none⟩) N N], 40), (R1, #[.int .i64 n0, .int .i64 n1, .int .i64 n2, .int .i64 n3, .int .i64 n4, .int .i64 n5, .int .i64 n6, .bool n7, .int .i64 ad, .int .i64 st, .int .i64 lf, .slice a N cap], 26)] [(L9, H9, some ⟨g, 0, none⟩, l)] from HL10.out.put 1 rfl g11 o11 (List.forall_mem_cons.2 ⟨Nat.ne_of_gt qR3_R2, (List.forall_mem_cons.2 ⟨Nat.ne_of_lt qR2_R1, (fun _ h => nomatch h)⟩)⟩) (List.forall_mem_cons.2 ⟨.inr qL9_R2, (fun _ h => nomatch h)⟩) rfl); clear g11 o11))
  exact bodyPost_ret (results_cell_row (p := 2) (ty := 40) (by kernel_rfl) _ _ (R2) 40 _ (0, 0) _ rfl (HL11.out.get (.tail _ (.head _))) Tryz.underlying40 rfl (by kernel_rfl)) rfl ⟨g, rfl, HL11.out.all (.head _), HL11.out.below⟩
set_option maxRecDepth 100000 in
set_option maxHeartbeats 4000000 in
theorem eqClaim_same (n : Nm) (ad st lf : Int) (a a' : Option Addr) (cap cap' : Nat) (l : List Int) (w : World) (h : NumsIn w a l) (h' : NumsIn w a' l) (hlen : l.length ≤ 1048576) :
    Calls Tryz.prog 51 #[clV n ad st lf (.slice a l.length cap), clV n ad st lf (.slice a' l.length cap')] w fun e w' => e = .returned (.bool true) ∧ Below w.heap.size w w' := by
  have HE := fun W hW hW' => Lib.hid (eqInt64S_same a a' cap cap' l W hW hW' hlen)
  have HN := fun W => Lib.hid (eqName_same n W)
  have HI := Lib.hid h
  have HJ := Lib.hid h'
  clear h h' hlen
  generalize l.length = N at *
  obtain ⟨n0, n1, n2, n3, n4, n5, n6, n7⟩ := n
  unfold clV
  unfold nmV at HN
  dsimp only at *
  go_enter Tryz.func51, Tryz.ntmps51
  go_wp2_with (first
    | (refine wpList_box_h rfl 40 (.tmp 0) rfl #[.int .i64 n0, .int .i64 n1, .int .i64 n2, .int .i64 n3, .int .i64 n4, .int .i64 n5, .int .i64 n6, .bool n7, .int .i64 ad, .int .i64 st, .int .i64 lf, .slice a N cap] rfl ?_; intro w1 R1 e1 g1 b1; have HL1 := Lib.hid (show Lv w w1 [(R1, #[.int .i64 n0, .int .i64 n1, .int .i64 n2, .int .i64 n3, .int .i64 n4, .int .i64 n5, .int .i64 n6, .bool n7, .int .i64 ad, .int .i64 st, .int .i64 lf, .slice a N cap], 40)] [] from (Lv.first w).box e1 g1 b1); clear g1 b1 e1)
    | (refine wpList_box_h rfl 40 (.tmp 1) rfl #[.int .i64 n0, .int .i64 n1, .int .i64 n2, .int .i64 n3, .int .i64 n4, .int .i64 n5, .int .i64 n6, .bool n7, .int .i64 ad, .int .i64 st, .int .i64 lf, .slice a' N cap'] rfl ?_; intro w2 R2 e2 g2 b2; have qR2_R1 : R1 < R2 := Nat.lt_of_lt_of_eq (HL1.out.lt (.head _)) e2; have HL2 := Lib.hid (show Lv w w2 [(R2, #[.int .i64 n0, .int .i64 n1, .int .i64 n2, .int .i64 n3, .int .i64 n4, .int .i64 n5, .int .i64 n6, .bool n7, .int .i64 ad, .int .i64 st, .int .i64 lf, .slice a' N cap'], 40), (R1, #[.int .i64 n0, .int .i64 n1, .int .i64 n2, .int .i64 n3, .int .i64 n4, .int .i64 n5, .int .i64 n6, .bool n7, .int .i64 ad, .int .i64 st, .int .i64 lf, .slice a N cap], 40)] [] from HL1.out.box e2 g2 b2); clear g2 b2 e2)
    | (refine wpList_load_at rfl 38 (.tmp 5) rfl (R1) 0 rfl 40 #[.int .i64 n0, .int .i64 n1, .int .i64 n2, .int .i64 n3, .int .i64 n4, .int .i64 n5, .int .i64 n6, .bool n7, .int .i64 ad, .int .i64 st, .int .i64 lf, .slice a N cap] (0, 0) (HL2.out.get (.tail _ (.head _))) [.int .i64 n0, .int .i64 n1, .int .i64 n2, .int .i64 n3, .int .i64 n4, .int .i64 n5, .int .i64 n6, .bool n7] rfl _ Tryz.underlying38 rfl (by kernel_rfl) ?_)
    | (refine wpList_load_at rfl 38 (.tmp 7) rfl (R2) 0 rfl 40 #[.int .i64 n0, .int .i64 n1, .int .i64 n2, .int .i64 n3, .int .i64 n4, .int .i64 n5, .int .i64 n6, .bool n7, .int .i64 ad, .int .i64 st, .int .i64 lf, .slice a' N cap'] (0, 0) (HL2.out.get (.head _)) [.int .i64 n0, .int .i64 n1, .int .i64 n2, .int .i64 n3, .int .i64 n4, .int .i64 n5, .int .i64 n6, .bool n7] rfl _ Tryz.underlying38 rfl (by kernel_rfl) ?_)
    | (go_at_call 107; refine ((HN _).out).mono ?_; rintro e w3 ⟨rfl, h⟩; have HL3 := Lib.hid (show Lv w w3 [(R2, #[.int .i64 n0, .int .i64 n1, .int .i64 n2, .int .i64 n3, .int .i64 n4, .int .i64 n5, .int .i64 n6, .bool n7, .int .i64 ad, .int .i64 st, .int .i64 lf, .slice a' N cap'], 40), (R1, #[.int .i64 n0, .int .i64 n1, .int .i64 n2, .int .i64 n3, .int .i64 n4, .int .i64 n5, .int .i64 n6, .bool n7, .int .i64 ad, .int .i64 st, .int .i64 lf, .slice a N cap], 40)] [] from HL2.out.kept h); clear h)
    | (refine wpList_load_one rfl 2 (.tmp 11) rfl (R1) 8 rfl 40 #[.int .i64 n0, .int .i64 n1, .int .i64 n2, .int .i64 n3, .int .i64 n4, .int .i64 n5, .int .i64 n6, .bool n7, .int .i64 ad, .int .i64 st, .int .i64 lf, .slice a N cap] (0, 0) (HL3.out.get (.tail _ (.head _))) (.int .i64 ad) rfl _ Tryz.underlying2 rfl (by kernel_rfl) ?_)
    | (refine wpList_load_one rfl 2 (.tmp 13) rfl (R2) 8 rfl 40 #[.int .i64 n0, .int .i64 n1, .int .i64 n2, .int .i64 n3, .int .i64 n4, .int .i64 n5, .int .i64 n6, .bool n7, .int .i64 ad, .int .i64 st, .int .i64 lf, .slice a' N cap'] (0, 0) (HL3.out.get (.head _)) (.int .i64 ad) rfl _ Tryz.underlying2 rfl (by kernel_rfl) ?_)
    | (refine wpList_load_one rfl 2 (.tmp 16) rfl (R1) 9 rfl 40 #[.int .i64 n0, .int .i64 n1, .int .i64 n2, .int .i64 n3, .int .i64 n4, .int .i64 n5, .int .i64 n6, .bool n7, .int .i64 ad, .int .i64 st, .int .i64 lf, .slice a N cap] (0, 0) (HL3.out.get (.tail _ (.head _))) (.int .i64 st) rfl _ Tryz.underlying2 rfl (by kernel_rfl) ?_)
    | (refine wpList_load_one rfl 2 (.tmp 18) rfl (R2) 9 rfl 40 #[.int .i64 n0, .int .i64 n1, .int .i64 n2, .int .i64 n3, .int .i64 n4, .int .i64 n5, .int .i64 n6, .bool n7, .int .i64 ad, .int .i64 st, .int .i64 lf, .slice a' N cap'] (0, 0) (HL3.out.get (.head _)) (.int .i64 st) rfl _ Tryz.underlying2 rfl (by kernel_rfl) ?_)
    | (refine wpList_load_one rfl 2 (.tmp 21) rfl (R1) 10 rfl 40 #[.int .i64 n0, .int .i64 n1, .int .i64 n2, .int .i64 n3, .int .i64 n4, .int .i64 n5, .int .i64 n6, .bool n7, .int .i64 ad, .int .i64 st, .int .i64 lf, .slice a N cap] (0, 0) (HL3.out.get (.tail _ (.head _))) (.int .i64 lf) rfl _ Tryz.underlying2 rfl (by kernel_rfl) ?_)
    | (refine wpList_load_one rfl 2 (.tmp 23) rfl (R2) 10 rfl 40 #[.int .i64 n0, .int .i64 n1, .int .i64 n2, .int .i64 n3, .int .i64 n4, .int .i64 n5, .int .i64 n6, .bool n7, .int .i64 ad, .int .i64 st, .int .i64 lf, .slice a' N cap'] (0, 0) (HL3.out.get (.head _)) (.int .i64 lf) rfl _ Tryz.underlying2 rfl (by kernel_rfl) ?_)
    | (refine wpList_load_one rfl 24 (.tmp 26) rfl (R1) 11 rfl 40 #[.int .i64 n0, .int .i64 n1, .int .i64 n2, .int .i64 n3, .int .i64 n4, .int .i64 n5, .int .i64 n6, .bool n7, .int .i64 ad, .int .i64 st, .int .i64 lf, .slice a N cap] (0, 0) (HL3.out.get (.tail _ (.head _))) (.slice a N cap) rfl _ Tryz.underlying24 rfl (by kernel_rfl) ?_)
    | (refine wpList_load_one rfl 24 (.tmp 28) rfl (R2) 11 rfl 40 #[.int .i64 n0, .int .i64 n1, .int .i64 n2, .int .i64 n3, .int .i64 n4, .int .i64 n5, .int .i64 n6, .bool n7, .int .i64 ad, .int .i64 st, .int .i64 lf, .slice a' N cap'] (0, 0) (HL3.out.get (.head _)) (.slice a' N cap') rfl _ Tryz.underlying24 rfl (by kernel_rfl) ?_)
    | (go_at_call 108; refine ((HE _ (HI.out.kept HL3.out.below) (HJ.out.kept HL3.out.below)).out).mono ?_; rintro e w4 ⟨rfl, h⟩; have HL4 := Lib.hid (show Lv w w4 [(R2, #[.int .i64 n0, .int .i64 n1, .int .i64 n2, .int .i64 n3, .int .i64 n4, .int .i64 n5, .int .i64 n6, .bool n7, .int .i64 ad, .int .i64 st, .int .i64 lf, .slice a' N cap'], 40), (R1, #[.int .i64 n0, .int .i64 n1, .int .i64 n2, .int .i64 n3, .int .i64 n4, .int .i64 n5, .int .i64 n6, .bool n7, .int .i64 ad, .int .i64 st, .int .i64 lf, .slice a N cap], 40)] [] from HL3.out.kept h); clear h))
  go_ret
  exact ⟨rfl, HL4.out.below⟩
set_option maxRecDepth 100000 in
set_option maxHeartbeats 4000000 in
theorem markClaim_any {lo hi : Nat} (n : Nm) (ad st lf : Int) (a : Option Addr) (cap : Nat) (l : List Int) (k : Nat) (w : World) (h : NumsNew lo hi w a l) (hk0 : 0 < k) (hk : k + l.length ≤ 30000000) :
    Calls Tryz.prog 57 #[clV n ad st lf (.slice a l.length cap), .int .i64 (k : Int)] w fun e w' => e = .returned (.int .i64 ((k + l.length : Nat) : Int)) ∧ NumsNew lo hi w' a (nmarks k l.length) ∧ Out lo hi w w' := by
  have H := fun W hW => Lib.hid (markInt64S_any (lo := lo) (hi := hi) a cap l k W hW hk0 hk)
  have HN := Lib.hid h
  clear h hk hk0
  generalize (k + l.length) = k2 at *
  generalize l.length = N at *
  obtain ⟨n0, n1, n2, n3, n4, n5, n6, n7⟩ := n
  unfold clV
  dsimp only at *
  go_enter Tryz.func57, Tryz.ntmps57
  go_wp2_with (first
    | (refine wpList_box_h rfl 40 (.tmp 0) rfl #[.int .i64 n0, .int .i64 n1, .int .i64 n2, .int .i64 n3, .int .i64 n4, .int .i64 n5, .int .i64 n6, .bool n7, .int .i64 ad, .int .i64 st, .int .i64 lf, .slice a N cap] rfl ?_; intro w1 R1 e1 g1 b1; have HL1 := Lib.hid (show Lv w w1 [(R1, #[.int .i64 n0, .int .i64 n1, .int .i64 n2, .int .i64 n3, .int .i64 n4, .int .i64 n5, .int .i64 n6, .bool n7, .int .i64 ad, .int .i64 st, .int .i64 lf, .slice a N cap], 40)] [] from (Lv.first w).box e1 g1 b1); clear g1 b1 e1)
    | (refine wpList_load_one rfl 24 (.tmp 5) rfl (R1) 11 rfl 40 #[.int .i64 n0, .int .i64 n1, .int .i64 n2, .int .i64 n3, .int .i64 n4, .int .i64 n5, .int .i64 n6, .bool n7, .int .i64 ad, .int .i64 st, .int .i64 lf, .slice a N cap] (0, 0) (HL1.out.get (.head _)) (.slice a N cap) rfl _ Tryz.underlying24 rfl (by kernel_rfl) ?_))
  refine (H _ (HN.out.kept HL1.out.below)).out.mono ?_
  rintro e w2 ⟨rfl, h1, h2⟩
  go_wp2_with fail
  go_ret
  exact ⟨rfl, h1, (Out.of_below HL1.out.below).trans h2⟩
set_option maxRecDepth 100000 in
set_option maxHeartbeats 4000000 in
theorem heldClaim_any (n : Nm) (ad st lf : Int) (a : Option Addr) (cap : Nat) (N k : Nat) (w : World) (h : NumsIn w a (nmarks k N)) (hk0 : 0 < k) (hk : k + N ≤ 30000000) :
    Calls Tryz.prog 116 #[clV n ad st lf (.slice a N cap), .int .i64 (k : Int)] w fun e w' => e = .returned (.int .i64 ((k + N : Nat) : Int)) ∧ Below w.heap.size w w' := by
  have H := fun W hW => Lib.hid (heldInt64S_any a cap N k W hW hk0 hk)
  have HN := Lib.hid h
  have hd : decide (((k + N : Nat) : Int) < 0) = false := decide_eq_false (by omega)
  clear h hk hk0
  generalize (k + N) = k2 at *
  obtain ⟨n0, n1, n2, n3, n4, n5, n6, n7⟩ := n
  unfold clV
  dsimp only at *
  go_enter Tryz.func116, Tryz.ntmps116
  go_wp2_with (first
    | (refine wpList_box_h rfl 40 (.tmp 0) rfl #[.int .i64 n0, .int .i64 n1, .int .i64 n2, .int .i64 n3, .int .i64 n4, .int .i64 n5, .int .i64 n6, .bool n7, .int .i64 ad, .int .i64 st, .int .i64 lf, .slice a N cap] rfl ?_; intro w1 R1 e1 g1 b1; have HL1 := Lib.hid (show Lv w w1 [(R1, #[.int .i64 n0, .int .i64 n1, .int .i64 n2, .int .i64 n3, .int .i64 n4, .int .i64 n5, .int .i64 n6, .bool n7, .int .i64 ad, .int .i64 st, .int .i64 lf, .slice a N cap], 40)] [] from (Lv.first w).box e1 g1 b1); clear g1 b1 e1)
    | (refine wpList_load_one rfl 24 (.tmp 5) rfl (R1) 11 rfl 40 #[.int .i64 n0, .int .i64 n1, .int .i64 n2, .int .i64 n3, .int .i64 n4, .int .i64 n5, .int .i64 n6, .bool n7, .int .i64 ad, .int .i64 st, .int .i64 lf, .slice a N cap] (0, 0) (HL1.out.get (.head _)) (.slice a N cap) rfl _ Tryz.underlying24 rfl (by kernel_rfl) ?_))
  refine (H _ (HN.out.kept HL1.out.below)).out.mono ?_
  rintro e w2 ⟨rfl, rfl⟩
  go_wp2_with fail
  go_ret
  exact ⟨rfl, HL1.out.below⟩
/-- A zero answer's block, its fourteen cells stored one by one. -/
theorem row14 {w : World} {g : Nat} {T : TypeId} (v0 v1 v2 v3 v4 v5 v6 v7 v8 v9 v10 v11 v12 v13 : Value) (h : w.heap[g]? = some (.cells #[.int .i64 0, .int .i64 0, .int .i64 0, .int .i64 0, .int .i64 0, .int .i64 0, .int .i64 0, .bool false, .int .i64 0, .int .i64 0, .int .i64 0, .slice none 0 0, .bool false, .int .i64 0] T (0, 0))) :
    ((((((((((((((w.setCell ⟨g, 0, none⟩ v0).setCell ⟨g, 1, none⟩ v1).setCell ⟨g, 2, none⟩ v2).setCell ⟨g, 3, none⟩ v3).setCell ⟨g, 4, none⟩ v4).setCell ⟨g, 5, none⟩ v5).setCell ⟨g, 6, none⟩ v6).setCell ⟨g, 7, none⟩ v7).setCell ⟨g, 8, none⟩ v8).setCell ⟨g, 9, none⟩ v9).setCell ⟨g, 10, none⟩ v10).setCell ⟨g, 11, none⟩ v11).setCell ⟨g, 12, none⟩ v12).setCell ⟨g, 13, none⟩ v13).heap[g]? = some (.cells #[v0, v1, v2, v3, v4, v5, v6, v7, v8, v9, v10, v11, v12, v13] T (0, 0)) ∧ Out g (g + 1) w ((((((((((((((w.setCell ⟨g, 0, none⟩ v0).setCell ⟨g, 1, none⟩ v1).setCell ⟨g, 2, none⟩ v2).setCell ⟨g, 3, none⟩ v3).setCell ⟨g, 4, none⟩ v4).setCell ⟨g, 5, none⟩ v5).setCell ⟨g, 6, none⟩ v6).setCell ⟨g, 7, none⟩ v7).setCell ⟨g, 8, none⟩ v8).setCell ⟨g, 9, none⟩ v9).setCell ⟨g, 10, none⟩ v10).setCell ⟨g, 11, none⟩ v11).setCell ⟨g, 12, none⟩ v12).setCell ⟨g, 13, none⟩ v13) :=
  ⟨(show (w.setCells g 0 [v0, v1, v2, v3, v4, v5, v6, v7, v8, v9, v10, v11, v12, v13]).heap[g]? = _ from (by
    rw [← (show setAll #[.int .i64 0, .int .i64 0, .int .i64 0, .int .i64 0, .int .i64 0, .int .i64 0, .int .i64 0, .bool false, .int .i64 0, .int .i64 0, .int .i64 0, .slice none 0 0, .bool false, .int .i64 0] 0 [v0, v1, v2, v3, v4, v5, v6, v7, v8, v9, v10, v11, v12, v13] = #[v0, v1, v2, v3, v4, v5, v6, v7, v8, v9, v10, v11, v12, v13] by kernel_rfl)]
    exact heap_setCells g T _ w 0 _ h)), (show Out g (g + 1) w (w.setCells g 0 [v0, v1, v2, v3, v4, v5, v6, v7, v8, v9, v10, v11, v12, v13]) from out_setCells g _ w 0)⟩
end Go.Proofs.YtioldepgoodipaaGreat
