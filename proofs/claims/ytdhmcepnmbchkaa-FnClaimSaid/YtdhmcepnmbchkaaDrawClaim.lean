/- A drawn Claim: what the draw leaves. Nothing that was there is written, but the source. -/
import Derived.Test.YtdhmcepnmbchkaaDs
import Derived.Test.YtdhmcepnmbchkaaHearOwn2
import Derived.Test.YtdhmcepnmbchkaaDrawName
import Derived.Test.YtdhmcepnmbchkaaClaimTo
namespace Go.Proofs.Ytdhmcepnmbchkaa
open Go.RowKit
set_option linter.unusedVariables false
theorem specClaimNew_let (n : Nm) (want : Int) (w : World) :
    Calls Try.prog 19 #[nmV n, .int .i64 want] w fun e w' => ∃ (n0 n1 n2 n3 n4 n5 n6 : Int) (n7 : Bool) (ad st lf : Int) (s : Bool) (c : Int), e = .returned (.agg #[.int .i64 n0, .int .i64 n1, .int .i64 n2, .int .i64 n3, .int .i64 n4, .int .i64 n5, .int .i64 n6, .bool n7, .int .i64 ad, .int .i64 st, .int .i64 lf, .slice none 0 0, .bool s, .int .i64 c]) ∧ Below w.heap.size w w' :=
  (specClaimNew_any n want w).mono fun e w' ⟨h1, h2⟩ => by
    obtain ⟨m0, m1, m2, m3, m4, m5, m6, m7⟩ := n
    rw [h1]
    unfold clNewV
    split
    · exact ⟨_, _, _, _, _, _, _, _, _, _, _, _, _, rfl, h2⟩
    · exact ⟨_, _, _, _, _, _, _, _, _, _, _, _, _, rfl, h2⟩
theorem specClaimHear_let (n m : Nm) (ad st lf s : Int) (a : Option Addr) (cap : Nat) (l : List Int) (w : World) (h : NumsIn w a l) (hlen : l.length ≤ 1048576) :
    Calls Try.prog 17 #[clV n ad st lf (.slice a l.length cap), .int .i64 s, nmV m] w fun e w' => ∃ (n0 n1 n2 n3 n4 n5 n6 : Int) (n7 : Bool) (ad st lf : Int) (s : Bool) (c : Int) (b : Option Addr) (cc : Nat) (l2 : List Int), e = .returned (.agg #[.int .i64 n0, .int .i64 n1, .int .i64 n2, .int .i64 n3, .int .i64 n4, .int .i64 n5, .int .i64 n6, .bool n7, .int .i64 ad, .int .i64 st, .int .i64 lf, .slice b l2.length cc, .bool s, .int .i64 c]) ∧
      w'.ownsRow w.heap.size 2 1 (.slice b l2.length cc) l2.length (ncells l2) ∧ l2.length ≤ 252 ∧ Below w.heap.size w w' :=
  (specClaimHear_own n m ad st lf s a cap l w h hlen).mono fun e w' ⟨b, cc, h1, h2, _, h4⟩ => by
    refine ⟨_, _, _, _, _, _, _, _, _, _, _, _, _, b, cc, _, h1, h2, ?_, h4⟩
    unfold hearO
    split
    · rename_i hq
      exact (clB_of (hearC_right (s := s) (m := m) (same := sameN n m) hq.1)).2.1
    · show ([] : List Int).length ≤ _
      simp
section
variable {w u u' : World} {S : Nat} {a : Option Addr} {len cap : Nat} {zs : List Int}
/-- A drawn Claim. -/
def NextCl (w : World) (S : Nat) (a : Option Addr) (len cap : Nat) (zs : List Int) (u : World) (e : Ending) (u' : World) : Prop :=
  ∃ (n : Nm) (ad st lf : Int) (b : Option Addr) (c : Nat) (l : List Int), e = .returned (clV n ad st lf (.slice b l.length c)) ∧ l.length ≤ 1000 ∧ NumsNew u.heap.size u'.heap.size u' b l ∧ Dr w S a len cap zs u' ∧ u.grownBy u' (some S)
/-- In the midst of it: the Claim in block C, the answer's block Z, the row of what is taken. -/
def CSt (w : World) (S : Nat) (a : Option Addr) (len cap : Nat) (zs : List Int) (u : World) (C Z K : Nat) (W : World) : Prop :=
  ∃ (n0 n1 n2 n3 n4 n5 n6 : Int) (n7 : Bool) (ad st lf : Int) (b : Option Addr) (c : Nat) (l : List Int) (B : Nat), l.length ≤ K ∧ Ds w S a len cap zs u W [(C, #[.int .i64 n0, .int .i64 n1, .int .i64 n2, .int .i64 n3, .int .i64 n4, .int .i64 n5, .int .i64 n6, .bool n7, .int .i64 ad, .int .i64 st, .int .i64 lf, .slice b l.length c], 27), (Z, #[.int .i64 0, .int .i64 0, .int .i64 0, .int .i64 0, .int .i64 0, .int .i64 0, .int .i64 0, .bool false, .int .i64 0, .int .i64 0, .int .i64 0, .slice none 0 0], 27)] [(B, .slice b l.length c, l)]
theorem CSt.wide {C Z K K' : Nat} {W : World} (h : CSt w S a len cap zs u C Z K W) (hk : K ≤ K') : CSt w S a len cap zs u C Z K' W := by
  obtain ⟨n0, n1, n2, n3, n4, n5, n6, n7, ad, st, lf, b, c, l, B, hl, hd⟩ := h
  exact ⟨n0, n1, n2, n3, n4, n5, n6, n7, ad, st, lf, b, c, l, B, Nat.le_trans hl hk, hd⟩
set_option maxRecDepth 100000 in
set_option maxHeartbeats 8000000 in
theorem claim_next (h : Dr w S a len cap zs u) : Calls Try.prog 53 #[.pointer (some ⟨S, 0, none⟩)] u (NextCl w S a len cap zs u) := by
  obtain ⟨Post, hPost⟩ : ∃ Post, NextCl w S a len cap zs u = Post := ⟨_, rfl⟩
  rw [hPost]
  have HPost := Lib.hid hPost
  clear hPost
  go_enter Try.func53, Try.ntmps53
  go_wp2_with (first
    | ((with_reducible refine @id (wpList _ _ _ _ _ _) ?_); refine wpList_alloc_h rfl 27 rfl (.agg #[.int .i64 0, .int .i64 0, .int .i64 0, .int .i64 0, .int .i64 0, .int .i64 0, .int .i64 0, .bool false, .int .i64 0, .int .i64 0, .int .i64 0, .slice none 0 0]) (by kernel_rfl) #[.int .i64 0, .int .i64 0, .int .i64 0, .int .i64 0, .int .i64 0, .int .i64 0, .int .i64 0, .bool false, .int .i64 0, .int .i64 0, .int .i64 0, .slice none 0 0] rfl ?_; intro w1 R1 e1 g1 b1; have HD1 := Lib.hid (show Ds w S a len cap zs u w1 [(R1, #[.int .i64 0, .int .i64 0, .int .i64 0, .int .i64 0, .int .i64 0, .int .i64 0, .int .i64 0, .bool false, .int .i64 0, .int .i64 0, .int .i64 0, .slice none 0 0], 27)] [] from (Ds.first h).box e1 g1 b1); clear g1 b1 e1))
  refine (n_next HD1.out.dr 6 (by omega)).mono ?_
  rintro e w2 ⟨x, rfl, x0, xm, hd, hg⟩
  have HD2 := Lib.hid (show Ds w S a len cap zs u w2 [(R1, #[.int .i64 0, .int .i64 0, .int .i64 0, .int .i64 0, .int .i64 0, .int .i64 0, .int .i64 0, .bool false, .int .i64 0, .int .i64 0, .int .i64 0, .slice none 0 0], 27)] [] from HD1.out.drawn hd hg)
  clear hd hg
  go_wp2_with fail
  refine (one_next HD2.out.dr 4 (by omega)).mono ?_
  rintro e w3 ⟨y, rfl, hd, hg⟩
  have HD3 := Lib.hid (show Ds w S a len cap zs u w3 [(R1, #[.int .i64 0, .int .i64 0, .int .i64 0, .int .i64 0, .int .i64 0, .int .i64 0, .int .i64 0, .bool false, .int .i64 0, .int .i64 0, .int .i64 0, .slice none 0 0], 27)] [] from HD2.out.drawn hd hg)
  clear hd hg
  go_wp2_with fail
  refine (n_next HD3.out.dr 5 (by omega)).mono ?_
  rintro e w4 ⟨z, rfl, z0, zm, hd, hg⟩
  have HD4 := Lib.hid (show Ds w S a len cap zs u w4 [(R1, #[.int .i64 0, .int .i64 0, .int .i64 0, .int .i64 0, .int .i64 0, .int .i64 0, .int .i64 0, .bool false, .int .i64 0, .int .i64 0, .int .i64 0, .slice none 0 0], 27)] [] from HD3.out.drawn hd hg)
  clear hd hg
  go_wp2_with fail
  refine (specClaimNew_let ⟨x, 0, 0, 0, 0, 0, 0, !y⟩ z _).mono ?_
  rintro e w5 ⟨n0, n1, n2, n3, n4, n5, n6, n7, ad, st, lf, s, c, rfl, h⟩
  have HD5 := Lib.hid (show Ds w S a len cap zs u w5 [(R1, #[.int .i64 0, .int .i64 0, .int .i64 0, .int .i64 0, .int .i64 0, .int .i64 0, .int .i64 0, .bool false, .int .i64 0, .int .i64 0, .int .i64 0, .slice none 0 0], 27)] [] from HD4.out.made h)
  clear h
  go_wp2_with (first
    | ((with_reducible refine @id (wpList _ _ _ _ _ _) ?_); refine wpList_field_h rfl 31 (.tmp 15) 0 rfl #[.int .i64 n0, .int .i64 n1, .int .i64 n2, .int .i64 n3, .int .i64 n4, .int .i64 n5, .int .i64 n6, .bool n7, .int .i64 ad, .int .i64 st, .int .i64 lf, .slice none 0 0, .bool s, .int .i64 c] rfl _ Try.underlying31 _ rfl _ Try.underlying27 rfl 12 (by kernel_rfl) #[.int .i64 n0, .int .i64 n1, .int .i64 n2, .int .i64 n3, .int .i64 n4, .int .i64 n5, .int .i64 n6, .bool n7, .int .i64 ad, .int .i64 st, .int .i64 lf, .slice none 0 0] (by kernel_rfl) ?_)
    | ((with_reducible refine @id (wpList _ _ _ _ _ _) ?_); refine wpList_alloc_h rfl 27 rfl (.agg #[.int .i64 0, .int .i64 0, .int .i64 0, .int .i64 0, .int .i64 0, .int .i64 0, .int .i64 0, .bool false, .int .i64 0, .int .i64 0, .int .i64 0, .slice none 0 0]) (by kernel_rfl) #[.int .i64 0, .int .i64 0, .int .i64 0, .int .i64 0, .int .i64 0, .int .i64 0, .int .i64 0, .bool false, .int .i64 0, .int .i64 0, .int .i64 0, .slice none 0 0] rfl ?_; intro w6 R6 e6 g6 b6; have qR6_R1 : R1 < R6 := Nat.lt_of_lt_of_eq (HD5.out.lt (.head _)) e6; have HD6 := Lib.hid (show Ds w S a len cap zs u w6 [(R6, #[.int .i64 0, .int .i64 0, .int .i64 0, .int .i64 0, .int .i64 0, .int .i64 0, .int .i64 0, .bool false, .int .i64 0, .int .i64 0, .int .i64 0, .slice none 0 0], 27), (R1, #[.int .i64 0, .int .i64 0, .int .i64 0, .int .i64 0, .int .i64 0, .int .i64 0, .int .i64 0, .bool false, .int .i64 0, .int .i64 0, .int .i64 0, .slice none 0 0], 27)] [] from HD5.out.box e6 g6 b6); clear g6 b6 e6)
    | ((with_reducible refine @id (wpList _ _ _ _ _ _) ?_); refine wpList_put_at rfl 27 (.tmp 3) (.tmp 16) rfl rfl (R6) 0 rfl (.agg #[.int .i64 n0, .int .i64 n1, .int .i64 n2, .int .i64 n3, .int .i64 n4, .int .i64 n5, .int .i64 n6, .bool n7, .int .i64 ad, .int .i64 st, .int .i64 lf, .slice none 0 0]) rfl #[.int .i64 n0, .int .i64 n1, .int .i64 n2, .int .i64 n3, .int .i64 n4, .int .i64 n5, .int .i64 n6, .bool n7, .int .i64 ad, .int .i64 st, .int .i64 lf, .slice none 0 0] rfl 27 #[.int .i64 0, .int .i64 0, .int .i64 0, .int .i64 0, .int .i64 0, .int .i64 0, .int .i64 0, .bool false, .int .i64 0, .int .i64 0, .int .i64 0, .slice none 0 0] #[.int .i64 n0, .int .i64 n1, .int .i64 n2, .int .i64 n3, .int .i64 n4, .int .i64 n5, .int .i64 n6, .bool n7, .int .i64 ad, .int .i64 st, .int .i64 lf, .slice none 0 0] (HD6.out.get (.head _)) (by kernel_rfl) (by kernel_rfl) (by kernel_rfl) (by kernel_rfl) ?_; intro w7 g7 o7; have HD7 := Lib.hid (show Ds w S a len cap zs u w7 [(R6, #[.int .i64 n0, .int .i64 n1, .int .i64 n2, .int .i64 n3, .int .i64 n4, .int .i64 n5, .int .i64 n6, .bool n7, .int .i64 ad, .int .i64 st, .int .i64 lf, .slice none 0 0], 27), (R1, #[.int .i64 0, .int .i64 0, .int .i64 0, .int .i64 0, .int .i64 0, .int .i64 0, .int .i64 0, .bool false, .int .i64 0, .int .i64 0, .int .i64 0, .slice none 0 0], 27)] [] from HD6.out.put 0 rfl g7 o7 (by decide) (List.forall_mem_cons.2 ⟨Nat.ne_of_lt qR6_R1, (fun _ h => nomatch h)⟩) rfl); clear g7 o7))
  refine (n_next HD7.out.dr 6 (by omega)).mono ?_
  rintro e w8 ⟨k, rfl, k0, km, hd, hg⟩
  have HD8 := Lib.hid (show Ds w S a len cap zs u w8 [(R6, #[.int .i64 n0, .int .i64 n1, .int .i64 n2, .int .i64 n3, .int .i64 n4, .int .i64 n5, .int .i64 n6, .bool n7, .int .i64 ad, .int .i64 st, .int .i64 lf, .slice none 0 0], 27), (R1, #[.int .i64 0, .int .i64 0, .int .i64 0, .int .i64 0, .int .i64 0, .int .i64 0, .int .i64 0, .bool false, .int .i64 0, .int .i64 0, .int .i64 0, .slice none 0 0], 27)] [] from HD7.out.drawn hd hg)
  clear hd hg
  go_wp2_with fail
  have HS := Lib.hid (show CSt w S a len cap zs u R6 R1 252 w8 from ⟨n0, n1, n2, n3, n4, n5, n6, n7, ad, st, lf, none, 0, [], u.heap.size, by simp, HD8.out.addOwn (World.ownsRow_nil _ _ _ _) (Nat.le_refl _) HD8.out.grown.size⟩)
  have HKm := Lib.hid (show k ≤ 6 by omega)
  clear HD1 HD2 HD3 HD4 HD5 HD6 HD7 HD8 x0 xm z0 zm km
  go_loopw [4] (fun s4 wr => ∃ k : Int, s4 = .int .i64 k ∧ 0 ≤ k ∧ k ≤ 6 ∧ CSt w S a len cap zs u R6 R1 252 wr) (fun s4 _ => (intOf s4).toNat)
  case atStart => exact ⟨k, rfl, k0, HKm.out, HS.out⟩
  case round =>
    obtain ⟨k, rfl, hk, hk6, n0, n1, n2, n3, n4, n5, n6, n7, ad, st, lf, b, c, l, B, hl, hds⟩ := hrel
    have HD := Lib.hid hds
    have HH := fun W m s hW => specClaimHear_let ⟨n0, n1, n2, n3, n4, n5, n6, n7⟩ m ad st lf s b c l W hW (by omega)
    have neC : R6 ≠ S := by have := hds.old; have := (hds.row _ (.head _)).1; show R6 ≠ S; intro e; subst e; omega
    clear hds
    by_cases hgo : 0 < k
    · have hd : decide (0 < k) = true := decide_eq_true hgo
      have hw : IntKind.i64.wrap (k - 1) = k - 1 := IntWalk.i64_in _ (by omega)
      unfold clV at HH
      dsimp only at HH
      go_wp2_with fail
      obtain ⟨U, hU⟩ : ∃ x, x = wr := ⟨_, rfl⟩
      subst hU
      have HK := Lib.hid (show ∀ W, U.grownBy W (some S) → ((W.cell? ⟨R6, 0, none⟩ = some (.int .i64 n0) ∧ W.cell? ⟨R6, 1, none⟩ = some (.int .i64 n1) ∧ W.cell? ⟨R6, 2, none⟩ = some (.int .i64 n2) ∧ W.cell? ⟨R6, 3, none⟩ = some (.int .i64 n3) ∧ W.cell? ⟨R6, 4, none⟩ = some (.int .i64 n4) ∧ W.cell? ⟨R6, 5, none⟩ = some (.int .i64 n5) ∧ W.cell? ⟨R6, 6, none⟩ = some (.int .i64 n6) ∧ W.cell? ⟨R6, 7, none⟩ = some (.bool n7) ∧ W.cell? ⟨R6, 8, none⟩ = some (.int .i64 ad) ∧ W.cell? ⟨R6, 9, none⟩ = some (.int .i64 st) ∧ W.cell? ⟨R6, 10, none⟩ = some (.int .i64 lf) ∧ W.cell? ⟨R6, 11, none⟩ = some ((.slice b l.length c))) ∧ U.grownBy W (some S)) from fun W hW => by
        have hX := (hW.block R6 (HD.out.lt (.head _)) (fun e => neC (Option.some.inj e))).trans (HD.out.get (.head _))
        refine ⟨⟨?_, ?_, ?_, ?_, ?_, ?_, ?_, ?_, ?_, ?_, ?_, ?_⟩, hW⟩
        all_goals (rw [cell_of_row W R6 _ _ _ (0, 0) hX]; rfl))
      go_cut [5] from 23 to 28 (fun sp wx => ∃ (R : Nat) (m0 m1 m2 m3 m4 m5 m6 : Int) (m7 : Bool) (ad2 st2 lf2 : Int) (s2 : Bool) (c2 : Int) (b2 : Option Addr) (cc : Nat) (l2 : List Int) (B2 : Nat), sp = .pointer (some ⟨R, 0, none⟩) ∧ U.heap.size ≤ R ∧ l2.length ≤ 252 ∧ Ds w S a len cap zs u wx [(R, #[.int .i64 m0, .int .i64 m1, .int .i64 m2, .int .i64 m3, .int .i64 m4, .int .i64 m5, .int .i64 m6, .bool m7, .int .i64 ad2, .int .i64 st2, .int .i64 lf2, (.slice b2 l2.length cc), .bool s2, .int .i64 c2], 31), (R6, #[.int .i64 n0, .int .i64 n1, .int .i64 n2, .int .i64 n3, .int .i64 n4, .int .i64 n5, .int .i64 n6, .bool n7, .int .i64 ad, .int .i64 st, .int .i64 lf, (.slice b l.length c)], 27), (R1, #[.int .i64 0, .int .i64 0, .int .i64 0, .int .i64 0, .int .i64 0, .int .i64 0, .int .i64 0, .bool false, .int .i64 0, .int .i64 0, .int .i64 0, .slice none 0 0], 27)] [(B2, .slice b2 l2.length cc, l2), (B, .slice b l.length c, l)])
      case first =>
        have HAl : Hid True := Lib.hid trivial
        have g0 : U.grownBy U.drew (some S) := grownBy_drew (World.grownBy.refl _ _)
        have HD0 := Lib.hid (HD.out.made (Below.refl _ _).drew)
        have HBd := Lib.hid (fun o : Obj => (show U.grownBy (U.alloc o).drew (some S) from grownBy_drew (grownBy_alloc (World.grownBy.refl _ _) o)))
        go_region_held3 (fun W => (W.cell? ⟨R6, 0, none⟩ = some (.int .i64 n0) ∧ W.cell? ⟨R6, 1, none⟩ = some (.int .i64 n1) ∧ W.cell? ⟨R6, 2, none⟩ = some (.int .i64 n2) ∧ W.cell? ⟨R6, 3, none⟩ = some (.int .i64 n3) ∧ W.cell? ⟨R6, 4, none⟩ = some (.int .i64 n4) ∧ W.cell? ⟨R6, 5, none⟩ = some (.int .i64 n5) ∧ W.cell? ⟨R6, 6, none⟩ = some (.int .i64 n6) ∧ W.cell? ⟨R6, 7, none⟩ = some (.bool n7) ∧ W.cell? ⟨R6, 8, none⟩ = some (.int .i64 ad) ∧ W.cell? ⟨R6, 9, none⟩ = some (.int .i64 st) ∧ W.cell? ⟨R6, 10, none⟩ = some (.int .i64 lf) ∧ W.cell? ⟨R6, 11, none⟩ = some ((.slice b l.length c))) ∧ U.grownBy W (some S))
          (first | with_reducible exact HK.out _ g0 | with_reducible exact HK.out _ g1 | with_reducible exact HK.out _ g2 | with_reducible exact HK.out _ g3 | with_reducible exact HK.out _ (grownBy_alloc g0 _) | with_reducible exact HK.out _ (grownBy_alloc g1 _) | with_reducible exact HK.out _ (grownBy_alloc g2 _) | with_reducible exact HK.out _ (grownBy_alloc g3 _) | with_reducible exact HK.out _ (grownBy_new (grownBy_new (grownBy_new (grownBy_new (grownBy_new (grownBy_new (grownBy_new (grownBy_new (grownBy_new (grownBy_new (grownBy_new (grownBy_new (grownBy_new (grownBy_new g3 (p := ⟨U.heap.size, 0, none⟩) (Nat.le_refl _) _) (p := ⟨U.heap.size, 1, none⟩) (Nat.le_refl _) _) (p := ⟨U.heap.size, 2, none⟩) (Nat.le_refl _) _) (p := ⟨U.heap.size, 3, none⟩) (Nat.le_refl _) _) (p := ⟨U.heap.size, 4, none⟩) (Nat.le_refl _) _) (p := ⟨U.heap.size, 5, none⟩) (Nat.le_refl _) _) (p := ⟨U.heap.size, 6, none⟩) (Nat.le_refl _) _) (p := ⟨U.heap.size, 7, none⟩) (Nat.le_refl _) _) (p := ⟨U.heap.size, 8, none⟩) (Nat.le_refl _) _) (p := ⟨U.heap.size, 9, none⟩) (Nat.le_refl _) _) (p := ⟨U.heap.size, 10, none⟩) (Nat.le_refl _) _) (p := ⟨U.heap.size, 11, none⟩) (Nat.le_refl _) _) (p := ⟨U.heap.size, 12, none⟩) (Nat.le_refl _) _) (p := ⟨U.heap.size, 13, none⟩) (Nat.le_refl _) _) | with_reducible exact HK.out _ (grownBy_new (grownBy_new (grownBy_new (grownBy_new (grownBy_new (grownBy_new (grownBy_new (grownBy_new (grownBy_new (grownBy_new (grownBy_new (grownBy_new (grownBy_new (grownBy_new g3 (p := ⟨wy1.heap.size, 0, none⟩) (g1.size) _) (p := ⟨wy1.heap.size, 1, none⟩) (g1.size) _) (p := ⟨wy1.heap.size, 2, none⟩) (g1.size) _) (p := ⟨wy1.heap.size, 3, none⟩) (g1.size) _) (p := ⟨wy1.heap.size, 4, none⟩) (g1.size) _) (p := ⟨wy1.heap.size, 5, none⟩) (g1.size) _) (p := ⟨wy1.heap.size, 6, none⟩) (g1.size) _) (p := ⟨wy1.heap.size, 7, none⟩) (g1.size) _) (p := ⟨wy1.heap.size, 8, none⟩) (g1.size) _) (p := ⟨wy1.heap.size, 9, none⟩) (g1.size) _) (p := ⟨wy1.heap.size, 10, none⟩) (g1.size) _) (p := ⟨wy1.heap.size, 11, none⟩) (g1.size) _) (p := ⟨wy1.heap.size, 12, none⟩) (g1.size) _) (p := ⟨wy1.heap.size, 13, none⟩) (g1.size) _) | with_reducible exact HK.out _ (grownBy_new (grownBy_new (grownBy_new (grownBy_new (grownBy_new (grownBy_new (grownBy_new (grownBy_new (grownBy_new (grownBy_new (grownBy_new (grownBy_new (grownBy_new (grownBy_new g3 (p := ⟨wy2.heap.size, 0, none⟩) (g2.size) _) (p := ⟨wy2.heap.size, 1, none⟩) (g2.size) _) (p := ⟨wy2.heap.size, 2, none⟩) (g2.size) _) (p := ⟨wy2.heap.size, 3, none⟩) (g2.size) _) (p := ⟨wy2.heap.size, 4, none⟩) (g2.size) _) (p := ⟨wy2.heap.size, 5, none⟩) (g2.size) _) (p := ⟨wy2.heap.size, 6, none⟩) (g2.size) _) (p := ⟨wy2.heap.size, 7, none⟩) (g2.size) _) (p := ⟨wy2.heap.size, 8, none⟩) (g2.size) _) (p := ⟨wy2.heap.size, 9, none⟩) (g2.size) _) (p := ⟨wy2.heap.size, 10, none⟩) (g2.size) _) (p := ⟨wy2.heap.size, 11, none⟩) (g2.size) _) (p := ⟨wy2.heap.size, 12, none⟩) (g2.size) _) (p := ⟨wy2.heap.size, 13, none⟩) (g2.size) _) | with_reducible exact HK.out _ (HBd.out _) | fail)
          (first
            | (go_at_call 56; refine (n_next HD0.out.dr 6 (by omega)).mono ?_; rintro e wy1 ⟨x, rfl, x0, xm, hd, hg⟩; have g1 : U.grownBy wy1 (some S) := grownBy_trans g0 hg; have HD1 := Lib.hid (HD0.out.drawn hd hg); clear hd hg)
            | (go_at_call 56; refine (n_next (HD0.out.made ((Below.refl _ _).alloc (Nat.le_refl _) _)).dr 6 (by omega)).mono ?_; rintro e wy1 ⟨x, rfl, x0, xm, hd, hg⟩; have g1 : U.grownBy wy1 (some S) := grownBy_trans (grownBy_alloc g0 _) hg; have HD1 := Lib.hid ((HD0.out.made ((Below.refl _ _).alloc (Nat.le_refl _) _)).drawn hd hg); clear HAl; have HRlo := Lib.hid (show U.heap.size ≤ U.heap.size from Nat.le_refl _); have HAl := Lib.hid (show wy1.heap[U.heap.size]? = some (.cells #[.int .i64 0, .int .i64 0, .int .i64 0, .int .i64 0, .int .i64 0, .int .i64 0, .int .i64 0, .bool false, .int .i64 0, .int .i64 0, .int .i64 0, .slice none 0 0, .bool false, .int .i64 0] 31 (0, 0)) from (hg.block U.drew.heap.size (by simp) (fun e => by have h1 := Option.some.inj e; have h2 := HD0.out.old; have h3 := HD0.out.grown.size; have h4 : U.drew.heap.size = S := h1; omega)).trans (heap_alloc_new U.drew _)); clear hd hg)
            | (go_at_call 54; have hzz : Hid (wy1.heap[_]? = some (Obj.cells _ _ _)) := HAl; clear HAl; refine (name_next HD1.out.dr).mono ?_; rintro e wy2 ⟨m, rfl, hd, hg⟩; have g2 : U.grownBy wy2 (some S) := grownBy_trans g1 hg; have HD2 := Lib.hid (HD1.out.drawn hd hg); have HAl := Lib.hid ((hg.block _ (heap_lt hzz.out) (fun e => by have h1 := Option.some.inj e; have h2 := HD.out.old; have h3 := HD.out.grown.size; have h4 := HRlo.out; omega)).trans hzz.out); clear hzz; clear hd hg)
            | (go_at_call 54; refine (name_next HD1.out.dr).mono ?_; rintro e wy2 ⟨m, rfl, hd, hg⟩; have g2 : U.grownBy wy2 (some S) := grownBy_trans g1 hg; have HD2 := Lib.hid (HD1.out.drawn hd hg); clear hd hg)
            | (go_at_call 54; refine (name_next (HD1.out.made ((Below.refl _ _).alloc (Nat.le_refl _) _)).dr).mono ?_; rintro e wy2 ⟨m, rfl, hd, hg⟩; have g2 : U.grownBy wy2 (some S) := grownBy_trans (grownBy_alloc g1 _) hg; have HD2 := Lib.hid ((HD1.out.made ((Below.refl _ _).alloc (Nat.le_refl _) _)).drawn hd hg); clear HAl; have HRlo := Lib.hid (show U.heap.size ≤ wy1.heap.size from g1.size); have HAl := Lib.hid (show wy2.heap[wy1.heap.size]? = some (.cells #[.int .i64 0, .int .i64 0, .int .i64 0, .int .i64 0, .int .i64 0, .int .i64 0, .int .i64 0, .bool false, .int .i64 0, .int .i64 0, .int .i64 0, .slice none 0 0, .bool false, .int .i64 0] 31 (0, 0)) from (hg.block wy1.heap.size (by simp) (fun e => by have h1 := Option.some.inj e; have h2 := HD1.out.old; have h3 := HD1.out.grown.size; have h4 : wy1.heap.size = S := h1; omega)).trans (heap_alloc_new wy1 _)); clear hd hg)
            | (go_at_call 17; have hzz : Hid (wy2.heap[_]? = some (Obj.cells _ _ _)) := HAl; clear HAl; refine (HH _ m _ (HD2.out.numsOf (.head _))).mono ?_; rintro e wy3 ⟨m0, m1, m2, m3, m4, m5, m6, m7, ad2, st2, lf2, s2, c2, b2, cc, l2, rfl, how, hl2, hb⟩; have g3 : U.grownBy wy3 (some S) := grownBy_made g2 hb; have HD3 := Lib.hid ((HD2.out.made hb).addOwn how (HD2.out.grown.size) hb.size); have HAl := Lib.hid ((hb.block _ (heap_lt hzz.out)).trans hzz.out); clear hzz; have hZ := HAl.out; have r0 := cell_of_row _ _ 0 _ _ (0, 0) hZ; have e0 := frozen_of_row _ _ 0 _ _ hZ; have r1 := cell_of_row _ _ 1 _ _ (0, 0) hZ; have e1 := frozen_of_row _ _ 1 _ _ hZ; have r2 := cell_of_row _ _ 2 _ _ (0, 0) hZ; have e2 := frozen_of_row _ _ 2 _ _ hZ; have r3 := cell_of_row _ _ 3 _ _ (0, 0) hZ; have e3 := frozen_of_row _ _ 3 _ _ hZ; have r4 := cell_of_row _ _ 4 _ _ (0, 0) hZ; have e4 := frozen_of_row _ _ 4 _ _ hZ; have r5 := cell_of_row _ _ 5 _ _ (0, 0) hZ; have e5 := frozen_of_row _ _ 5 _ _ hZ; have r6 := cell_of_row _ _ 6 _ _ (0, 0) hZ; have e6 := frozen_of_row _ _ 6 _ _ hZ; have r7 := cell_of_row _ _ 7 _ _ (0, 0) hZ; have e7 := frozen_of_row _ _ 7 _ _ hZ; have r8 := cell_of_row _ _ 8 _ _ (0, 0) hZ; have e8 := frozen_of_row _ _ 8 _ _ hZ; have r9 := cell_of_row _ _ 9 _ _ (0, 0) hZ; have e9 := frozen_of_row _ _ 9 _ _ hZ; have r10 := cell_of_row _ _ 10 _ _ (0, 0) hZ; have e10 := frozen_of_row _ _ 10 _ _ hZ; have r11 := cell_of_row _ _ 11 _ _ (0, 0) hZ; have e11 := frozen_of_row _ _ 11 _ _ hZ; have r12 := cell_of_row _ _ 12 _ _ (0, 0) hZ; have e12 := frozen_of_row _ _ 12 _ _ hZ; have r13 := cell_of_row _ _ 13 _ _ (0, 0) hZ; have e13 := frozen_of_row _ _ 13 _ _ hZ; simp only [List.getElem?_toArray, List.getElem?_cons_zero, List.getElem?_cons_succ] at r0 r1 r2 r3 r4 r5 r6 r7 r8 r9 r10 r11 r12 r13; clear hZ; have HL2 := Lib.hid hl2; clear how hl2 hb)
            | (go_at_call 17; refine (HH _ m _ (HD2.out.numsOf (.head _))).mono ?_; rintro e wy3 ⟨m0, m1, m2, m3, m4, m5, m6, m7, ad2, st2, lf2, s2, c2, b2, cc, l2, rfl, how, hl2, hb⟩; have g3 : U.grownBy wy3 (some S) := grownBy_made g2 hb; have HD3 := Lib.hid ((HD2.out.made hb).addOwn how (HD2.out.grown.size) hb.size); have HL2 := Lib.hid hl2; clear how hl2 hb)
            | (go_at_call 17; refine (HH _ m _ ((HD2.out.made ((Below.refl _ _).alloc (Nat.le_refl _) _)).numsOf (.head _))).mono ?_; rintro e wy3 ⟨m0, m1, m2, m3, m4, m5, m6, m7, ad2, st2, lf2, s2, c2, b2, cc, l2, rfl, how, hl2, hb⟩; have g3 : U.grownBy wy3 (some S) := grownBy_made (grownBy_alloc g2 _) hb; have HD3 := Lib.hid (((HD2.out.made ((Below.refl _ _).alloc (Nat.le_refl _) _)).made hb).addOwn how ((HD2.out.made ((Below.refl _ _).alloc (Nat.le_refl _) _)).grown.size) hb.size); clear HAl; have HRlo := Lib.hid (show U.heap.size ≤ wy2.heap.size from g2.size); have HAl := Lib.hid (show wy3.heap[wy2.heap.size]? = some (.cells #[.int .i64 0, .int .i64 0, .int .i64 0, .int .i64 0, .int .i64 0, .int .i64 0, .int .i64 0, .bool false, .int .i64 0, .int .i64 0, .int .i64 0, .slice none 0 0, .bool false, .int .i64 0] 31 (0, 0)) from (hb.block wy2.heap.size (by simp)).trans (heap_alloc_new wy2 _)); have hZ := HAl.out; have r0 := cell_of_row _ _ 0 _ _ (0, 0) hZ; have e0 := frozen_of_row _ _ 0 _ _ hZ; have r1 := cell_of_row _ _ 1 _ _ (0, 0) hZ; have e1 := frozen_of_row _ _ 1 _ _ hZ; have r2 := cell_of_row _ _ 2 _ _ (0, 0) hZ; have e2 := frozen_of_row _ _ 2 _ _ hZ; have r3 := cell_of_row _ _ 3 _ _ (0, 0) hZ; have e3 := frozen_of_row _ _ 3 _ _ hZ; have r4 := cell_of_row _ _ 4 _ _ (0, 0) hZ; have e4 := frozen_of_row _ _ 4 _ _ hZ; have r5 := cell_of_row _ _ 5 _ _ (0, 0) hZ; have e5 := frozen_of_row _ _ 5 _ _ hZ; have r6 := cell_of_row _ _ 6 _ _ (0, 0) hZ; have e6 := frozen_of_row _ _ 6 _ _ hZ; have r7 := cell_of_row _ _ 7 _ _ (0, 0) hZ; have e7 := frozen_of_row _ _ 7 _ _ hZ; have r8 := cell_of_row _ _ 8 _ _ (0, 0) hZ; have e8 := frozen_of_row _ _ 8 _ _ hZ; have r9 := cell_of_row _ _ 9 _ _ (0, 0) hZ; have e9 := frozen_of_row _ _ 9 _ _ hZ; have r10 := cell_of_row _ _ 10 _ _ (0, 0) hZ; have e10 := frozen_of_row _ _ 10 _ _ hZ; have r11 := cell_of_row _ _ 11 _ _ (0, 0) hZ; have e11 := frozen_of_row _ _ 11 _ _ hZ; have r12 := cell_of_row _ _ 12 _ _ (0, 0) hZ; have e12 := frozen_of_row _ _ 12 _ _ hZ; have r13 := cell_of_row _ _ 13 _ _ (0, 0) hZ; have e13 := frozen_of_row _ _ 13 _ _ hZ; simp only [List.getElem?_toArray, List.getElem?_cons_zero, List.getElem?_cons_succ] at r0 r1 r2 r3 r4 r5 r6 r7 r8 r9 r10 r11 r12 r13; clear hZ; have HL2 := Lib.hid hl2; clear how hl2 hb))
        · go_wp2_with fail
          go_meet
          refine ⟨_, m0, m1, m2, m3, m4, m5, m6, m7, ad2, st2, lf2, s2, c2, b2, cc, l2, _, rfl, g3.size, HL2.out, (HD3.out.made ((Below.refl _ _).alloc (Nat.le_refl _) _)).addRow (heap_alloc_new _ _) (Nat.le_trans HD.out.grown.size g3.size)⟩
        · go_wp2_with fail
          go_meet
          refine ⟨_, m0, m1, m2, m3, m4, m5, m6, m7, ad2, st2, lf2, s2, c2, b2, cc, l2, _, rfl, HRlo.out, HL2.out, (HD3.out.addRow HAl.out (Nat.le_trans HD.out.grown.size HRlo.out)).put 0 rfl (row14 _ _ _ _ _ _ _ _ _ _ _ _ _ _ HAl.out).1 (row14 _ _ _ _ _ _ _ _ _ _ _ _ _ _ HAl.out).2 (by decide) (List.forall_mem_cons.2 ⟨(by have := HD.out.lt (.head _); have := HRlo.out; show R6 ≠ _; omega), (List.forall_mem_cons.2 ⟨(by have := HD.out.lt (.tail _ (.head _)); have := HRlo.out; show R1 ≠ _; omega), (fun _ h => nomatch h)⟩)⟩) rfl⟩
        · go_wp2_with fail
          go_meet
          refine ⟨_, m0, m1, m2, m3, m4, m5, m6, m7, ad2, st2, lf2, s2, c2, b2, cc, l2, _, rfl, HRlo.out, HL2.out, (HD3.out.addRow HAl.out (Nat.le_trans HD.out.grown.size HRlo.out)).put 0 rfl (row14 _ _ _ _ _ _ _ _ _ _ _ _ _ _ HAl.out).1 (row14 _ _ _ _ _ _ _ _ _ _ _ _ _ _ HAl.out).2 (by decide) (List.forall_mem_cons.2 ⟨(by have := HD.out.lt (.head _); have := HRlo.out; show R6 ≠ _; omega), (List.forall_mem_cons.2 ⟨(by have := HD.out.lt (.tail _ (.head _)); have := HRlo.out; show R1 ≠ _; omega), (fun _ h => nomatch h)⟩)⟩) rfl⟩
        · go_wp2_with fail
          go_meet
          refine ⟨_, m0, m1, m2, m3, m4, m5, m6, m7, ad2, st2, lf2, s2, c2, b2, cc, l2, _, rfl, HRlo.out, HL2.out, (HD3.out.addRow HAl.out (Nat.le_trans HD.out.grown.size HRlo.out)).put 0 rfl (row14 _ _ _ _ _ _ _ _ _ _ _ _ _ _ HAl.out).1 (row14 _ _ _ _ _ _ _ _ _ _ _ _ _ _ HAl.out).2 (by decide) (List.forall_mem_cons.2 ⟨(by have := HD.out.lt (.head _); have := HRlo.out; show R6 ≠ _; omega), (List.forall_mem_cons.2 ⟨(by have := HD.out.lt (.tail _ (.head _)); have := HRlo.out; show R1 ≠ _; omega), (fun _ h => nomatch h)⟩)⟩) rfl⟩
      case rest =>
        obtain ⟨R, m0, m1, m2, m3, m4, m5, m6, m7, ad2, st2, lf2, s2, c2, b2, cc, l2, B2, rfl, hRo, hl2, hds⟩ := hcut
        have HL2 := Lib.hid hl2
        have HDa := Lib.hid hds
        have qC : R6 < R := Nat.lt_of_lt_of_le (HD.out.lt (.head _)) hRo
        have qZ : R1 < R := Nat.lt_of_lt_of_le (HD.out.lt (.tail _ (.head _))) hRo
        clear hds hl2 HK HH
        rcases hcz : (c2 == 0)
        · go_wp2_with (refine wpList_load_one rfl 2 (.tmp 29) rfl (R) 13 rfl 31 #[.int .i64 m0, .int .i64 m1, .int .i64 m2, .int .i64 m3, .int .i64 m4, .int .i64 m5, .int .i64 m6, .bool m7, .int .i64 ad2, .int .i64 st2, .int .i64 lf2, (.slice b2 l2.length cc), .bool s2, .int .i64 c2] (0, 0) (HDa.out.get (.head _)) (.int .i64 c2) rfl _ Try.underlying2 rfl (by kernel_rfl) ?_)
          go_roundw
          case rel => exact ⟨k - 1, rfl, by omega, by omega, n0, n1, n2, n3, n4, n5, n6, n7, ad, st, lf, b, c, l, B, hl, HDa.out.less (fun r hr => .tail _ hr) (fun o ho => .tail _ ho)⟩
          case measure => simp [intOf]; omega
        · go_wp2_with (first
            | (refine wpList_load_one rfl 2 (.tmp 29) rfl (R) 13 rfl 31 #[.int .i64 m0, .int .i64 m1, .int .i64 m2, .int .i64 m3, .int .i64 m4, .int .i64 m5, .int .i64 m6, .bool m7, .int .i64 ad2, .int .i64 st2, .int .i64 lf2, (.slice b2 l2.length cc), .bool s2, .int .i64 c2] (0, 0) (HDa.out.get (.head _)) (.int .i64 c2) rfl _ Try.underlying2 rfl (by kernel_rfl) ?_)
            | (refine wpList_load_at rfl 27 (.tmp 32) rfl (R) 0 rfl 31 #[.int .i64 m0, .int .i64 m1, .int .i64 m2, .int .i64 m3, .int .i64 m4, .int .i64 m5, .int .i64 m6, .bool m7, .int .i64 ad2, .int .i64 st2, .int .i64 lf2, (.slice b2 l2.length cc), .bool s2, .int .i64 c2] (0, 0) (HDa.out.get (.head _)) [.int .i64 m0, .int .i64 m1, .int .i64 m2, .int .i64 m3, .int .i64 m4, .int .i64 m5, .int .i64 m6, .bool m7, .int .i64 ad2, .int .i64 st2, .int .i64 lf2, (.slice b2 l2.length cc)] rfl _ Try.underlying27 rfl (by kernel_rfl) ?_)
            | (refine wpList_put_at rfl 27 (.tmp 3) (.tmp 33) rfl rfl (R6) 0 rfl (.agg #[.int .i64 m0, .int .i64 m1, .int .i64 m2, .int .i64 m3, .int .i64 m4, .int .i64 m5, .int .i64 m6, .bool m7, .int .i64 ad2, .int .i64 st2, .int .i64 lf2, (.slice b2 l2.length cc)]) rfl #[.int .i64 m0, .int .i64 m1, .int .i64 m2, .int .i64 m3, .int .i64 m4, .int .i64 m5, .int .i64 m6, .bool m7, .int .i64 ad2, .int .i64 st2, .int .i64 lf2, (.slice b2 l2.length cc)] rfl 27 #[.int .i64 n0, .int .i64 n1, .int .i64 n2, .int .i64 n3, .int .i64 n4, .int .i64 n5, .int .i64 n6, .bool n7, .int .i64 ad, .int .i64 st, .int .i64 lf, (.slice b l.length c)] #[.int .i64 m0, .int .i64 m1, .int .i64 m2, .int .i64 m3, .int .i64 m4, .int .i64 m5, .int .i64 m6, .bool m7, .int .i64 ad2, .int .i64 st2, .int .i64 lf2, (.slice b2 l2.length cc)] (HDa.out.get (.tail _ (.head _))) (by kernel_rfl) (by kernel_rfl) (by kernel_rfl) (by kernel_rfl) ?_; intro wn gn on; have HDb := Lib.hid (show Ds w S a len cap zs u wn [(R, #[.int .i64 m0, .int .i64 m1, .int .i64 m2, .int .i64 m3, .int .i64 m4, .int .i64 m5, .int .i64 m6, .bool m7, .int .i64 ad2, .int .i64 st2, .int .i64 lf2, (.slice b2 l2.length cc), .bool s2, .int .i64 c2], 31), (R6, #[.int .i64 m0, .int .i64 m1, .int .i64 m2, .int .i64 m3, .int .i64 m4, .int .i64 m5, .int .i64 m6, .bool m7, .int .i64 ad2, .int .i64 st2, .int .i64 lf2, (.slice b2 l2.length cc)], 27), (R1, #[.int .i64 0, .int .i64 0, .int .i64 0, .int .i64 0, .int .i64 0, .int .i64 0, .int .i64 0, .bool false, .int .i64 0, .int .i64 0, .int .i64 0, .slice none 0 0], 27)] [(B2, .slice b2 l2.length cc, l2), (B, .slice b l.length c, l)] from HDa.out.put 1 rfl gn on (by decide) (List.forall_mem_cons.2 ⟨Nat.ne_of_gt qC, (List.forall_mem_cons.2 ⟨Nat.ne_of_lt qR6_R1, (fun _ h => nomatch h)⟩)⟩) rfl); clear gn on))
          go_roundw
          case rel => exact ⟨k - 1, rfl, by omega, by omega, m0, m1, m2, m3, m4, m5, m6, m7, ad2, st2, lf2, b2, cc, l2, B2, HL2.out, HDb.out.less (fun r hr => .tail _ hr) (fun o ho => by rcases List.mem_cons.1 ho with rfl | ho; exact .head _; cases ho)⟩
          case measure => simp [intOf]; omega
    · have hd : decide (0 < k) = false := decide_eq_false hgo
      have HSn := Lib.hid (show CSt w S a len cap zs u R6 R1 252 wr from ⟨n0, n1, n2, n3, n4, n5, n6, n7, ad, st, lf, b, c, l, B, hl, HD.out⟩)
      clear HH neC HD hl HS HKm
      clear n0 n1 n2 n3 n4 n5 n6 n7 ad st lf b c l B
      go_upto_region 8 with fail
      go_cut [40] (fun v wx => (∃ t, v = .bool t) ∧ CSt w S a len cap zs u R6 R1 252 wx)
      case first =>
        obtain ⟨n0, n1, n2, n3, n4, n5, n6, n7, ad, st, lf, b, c, l, B, hl, hds⟩ := HSn.out
        have HDc := Lib.hid hds
        have HLl := Lib.hid hl
        clear hds hl
        by_cases hq : st = 1
        · have hs : (st == 1) = true := by simpa using hq
          clear hq
          go_wp2_with (first
            | ((with_reducible refine @id (wpList _ _ _ _ _ _) ?_); refine wpList_load_one rfl 2 (.tmp 34) rfl (R6) 9 rfl 27 #[.int .i64 n0, .int .i64 n1, .int .i64 n2, .int .i64 n3, .int .i64 n4, .int .i64 n5, .int .i64 n6, .bool n7, .int .i64 ad, .int .i64 st, .int .i64 lf, (.slice b l.length c)] (0, 0) (HDc.out.get (.head _)) (.int .i64 st) rfl _ Try.underlying2 rfl (by kernel_rfl) ?_))
          refine (one_next HDc.out.dr 2 (by omega)).mono ?_
          rintro e w901 ⟨t, rfl, hd, hg⟩
          have HD901 := Lib.hid (show Ds w S a len cap zs u w901 [(R6, #[.int .i64 n0, .int .i64 n1, .int .i64 n2, .int .i64 n3, .int .i64 n4, .int .i64 n5, .int .i64 n6, .bool n7, .int .i64 ad, .int .i64 st, .int .i64 lf, (.slice b l.length c)], 27), (R1, #[.int .i64 0, .int .i64 0, .int .i64 0, .int .i64 0, .int .i64 0, .int .i64 0, .int .i64 0, .bool false, .int .i64 0, .int .i64 0, .int .i64 0, .slice none 0 0], 27)] [(B, .slice b l.length c, l)] from HDc.out.drawn hd hg)
          clear hd hg
          go_wp2_with fail
          go_meet
          exact ⟨⟨_, rfl⟩, ⟨(n0), (n1), (n2), (n3), (n4), (n5), (n6), (n7), (ad), (st), (lf), b, c, l, B, HLl.out, HD901.out⟩⟩
        · have hs : (st == 1) = false := by simpa using hq
          clear hq
          go_wp2_with (first
            | ((with_reducible refine @id (wpList _ _ _ _ _ _) ?_); refine wpList_load_one rfl 2 (.tmp 34) rfl (R6) 9 rfl 27 #[.int .i64 n0, .int .i64 n1, .int .i64 n2, .int .i64 n3, .int .i64 n4, .int .i64 n5, .int .i64 n6, .bool n7, .int .i64 ad, .int .i64 st, .int .i64 lf, (.slice b l.length c)] (0, 0) (HDc.out.get (.head _)) (.int .i64 st) rfl _ Try.underlying2 rfl (by kernel_rfl) ?_))
          go_meet
          exact ⟨⟨_, rfl⟩, ⟨(n0), (n1), (n2), (n3), (n4), (n5), (n6), (n7), (ad), (st), (lf), b, c, l, B, HLl.out, HDc.out⟩⟩
      case rest =>
        obtain ⟨⟨t, rfl⟩, hcs⟩ := hcut
        have HSn := Lib.hid hcs
        clear hcs
        go_upto_if 40 with fail
        go_cut [41] (fun v wx => CSt w S a len cap zs u R6 R1 252 wx)
        case first =>
          cases t
          · go_wp2_with fail
            go_meet
            exact CSt.wide HSn.out (by omega)
          · skip
            obtain ⟨n0, n1, n2, n3, n4, n5, n6, n7, ad, st, lf, b, c, l, B, hl, hds⟩ := HSn.out
            have HDc := Lib.hid hds
            have HLl := Lib.hid hl
            clear hds hl
            go_wp2_with fail
            refine (n_next HDc.out.dr 2 (by omega)).mono ?_
            rintro e w901 ⟨x, rfl, x0, xm, hd, hg⟩
            have HD901 := Lib.hid (show Ds w S a len cap zs u w901 [(R6, #[.int .i64 n0, .int .i64 n1, .int .i64 n2, .int .i64 n3, .int .i64 n4, .int .i64 n5, .int .i64 n6, .bool n7, .int .i64 ad, .int .i64 st, .int .i64 lf, (.slice b l.length c)], 27), (R1, #[.int .i64 0, .int .i64 0, .int .i64 0, .int .i64 0, .int .i64 0, .int .i64 0, .int .i64 0, .bool false, .int .i64 0, .int .i64 0, .int .i64 0, .slice none 0 0], 27)] [(B, .slice b l.length c, l)] from HDc.out.drawn hd hg)
            clear hd hg
            have hwx : IntKind.i64.wrap (1 + x) = 1 + x := IntWalk.i64_in _ (by omega)
            go_wp2_with (first
              | ((with_reducible refine @id (wpList _ _ _ _ _ _) ?_); refine wpList_put_at rfl 2 (.tmp 44) (.tmp 43) rfl rfl (R6) 10 rfl (.int .i64 (1 + x)) rfl #[.int .i64 (1 + x)] rfl 27 #[.int .i64 n0, .int .i64 n1, .int .i64 n2, .int .i64 n3, .int .i64 n4, .int .i64 n5, .int .i64 n6, .bool n7, .int .i64 ad, .int .i64 st, .int .i64 lf, (.slice b l.length c)] #[.int .i64 n0, .int .i64 n1, .int .i64 n2, .int .i64 n3, .int .i64 n4, .int .i64 n5, .int .i64 n6, .bool n7, .int .i64 ad, .int .i64 st, .int .i64 (1 + x), (.slice b l.length c)] (HD901.out.get (.head _)) (by kernel_rfl) (by kernel_rfl) (by kernel_rfl) (by kernel_rfl) ?_; intro w902 g902 o902; have HD902 := Lib.hid (show Ds w S a len cap zs u w902 [(R6, #[.int .i64 n0, .int .i64 n1, .int .i64 n2, .int .i64 n3, .int .i64 n4, .int .i64 n5, .int .i64 n6, .bool n7, .int .i64 ad, .int .i64 st, .int .i64 (1 + x), (.slice b l.length c)], 27), (R1, #[.int .i64 0, .int .i64 0, .int .i64 0, .int .i64 0, .int .i64 0, .int .i64 0, .int .i64 0, .bool false, .int .i64 0, .int .i64 0, .int .i64 0, .slice none 0 0], 27)] [(B, .slice b l.length c, l)] from HD901.out.put 0 rfl g902 o902 (by decide) (List.forall_mem_cons.2 ⟨Nat.ne_of_lt qR6_R1, (fun _ h => nomatch h)⟩) rfl); clear g902 o902))
            go_meet
            exact ⟨(n0), (n1), (n2), (n3), (n4), (n5), (n6), (n7), (ad), (st), ((1 + x)), b, c, l, B, HLl.out, HD902.out⟩
        case rest =>
          have HSn := Lib.hid hcut
          clear hcut
          go_upto_region 10 with fail
          go_cut [51] (fun v wx => (∃ t, v = .bool t) ∧ CSt w S a len cap zs u R6 R1 252 wx)
          case first =>
            obtain ⟨n0, n1, n2, n3, n4, n5, n6, n7, ad, st, lf, b, c, l, B, hl, hds⟩ := HSn.out
            have HDc := Lib.hid hds
            have HLl := Lib.hid hl
            clear hds hl
            by_cases hq : st = 1
            · have hs : (st == 1) = true := by simpa using hq
              clear hq
              go_wp2_with (first
                | ((with_reducible refine @id (wpList _ _ _ _ _ _) ?_); refine wpList_load_one rfl 2 (.tmp 45) rfl (R6) 9 rfl 27 #[.int .i64 n0, .int .i64 n1, .int .i64 n2, .int .i64 n3, .int .i64 n4, .int .i64 n5, .int .i64 n6, .bool n7, .int .i64 ad, .int .i64 st, .int .i64 lf, (.slice b l.length c)] (0, 0) (HDc.out.get (.head _)) (.int .i64 st) rfl _ Try.underlying2 rfl (by kernel_rfl) ?_))
              refine (one_next HDc.out.dr 3 (by omega)).mono ?_
              rintro e w901 ⟨t, rfl, hd, hg⟩
              have HD901 := Lib.hid (show Ds w S a len cap zs u w901 [(R6, #[.int .i64 n0, .int .i64 n1, .int .i64 n2, .int .i64 n3, .int .i64 n4, .int .i64 n5, .int .i64 n6, .bool n7, .int .i64 ad, .int .i64 st, .int .i64 lf, (.slice b l.length c)], 27), (R1, #[.int .i64 0, .int .i64 0, .int .i64 0, .int .i64 0, .int .i64 0, .int .i64 0, .int .i64 0, .bool false, .int .i64 0, .int .i64 0, .int .i64 0, .slice none 0 0], 27)] [(B, .slice b l.length c, l)] from HDc.out.drawn hd hg)
              clear hd hg
              go_wp2_with fail
              go_meet
              exact ⟨⟨_, rfl⟩, ⟨(n0), (n1), (n2), (n3), (n4), (n5), (n6), (n7), (ad), (st), (lf), b, c, l, B, HLl.out, HD901.out⟩⟩
            · have hs : (st == 1) = false := by simpa using hq
              clear hq
              go_wp2_with (first
                | ((with_reducible refine @id (wpList _ _ _ _ _ _) ?_); refine wpList_load_one rfl 2 (.tmp 45) rfl (R6) 9 rfl 27 #[.int .i64 n0, .int .i64 n1, .int .i64 n2, .int .i64 n3, .int .i64 n4, .int .i64 n5, .int .i64 n6, .bool n7, .int .i64 ad, .int .i64 st, .int .i64 lf, (.slice b l.length c)] (0, 0) (HDc.out.get (.head _)) (.int .i64 st) rfl _ Try.underlying2 rfl (by kernel_rfl) ?_))
              go_meet
              exact ⟨⟨_, rfl⟩, ⟨(n0), (n1), (n2), (n3), (n4), (n5), (n6), (n7), (ad), (st), (lf), b, c, l, B, HLl.out, HDc.out⟩⟩
          case rest =>
            obtain ⟨⟨t, rfl⟩, hcs⟩ := hcut
            have HSn := Lib.hid hcs
            clear hcs
            go_upto_if 51 with fail
            go_cut [52] (fun v wx => CSt w S a len cap zs u R6 R1 252 wx)
            case first =>
              cases t
              · go_wp2_with fail
                go_meet
                exact CSt.wide HSn.out (by omega)
              · skip
                obtain ⟨n0, n1, n2, n3, n4, n5, n6, n7, ad, st, lf, b, c, l, B, hl, hds⟩ := HSn.out
                have HDc := Lib.hid hds
                have HLl := Lib.hid hl
                clear hds hl
                go_wp2_with (first
                  | ((with_reducible refine @id (wpList _ _ _ _ _ _) ?_); refine wpList_put_at rfl 2 (.tmp 52) (.const (.int .i64 2)) rfl rfl (R6) 9 rfl (.int .i64 2) rfl #[.int .i64 2] rfl 27 #[.int .i64 n0, .int .i64 n1, .int .i64 n2, .int .i64 n3, .int .i64 n4, .int .i64 n5, .int .i64 n6, .bool n7, .int .i64 ad, .int .i64 st, .int .i64 lf, (.slice b l.length c)] #[.int .i64 n0, .int .i64 n1, .int .i64 n2, .int .i64 n3, .int .i64 n4, .int .i64 n5, .int .i64 n6, .bool n7, .int .i64 ad, .int .i64 2, .int .i64 lf, (.slice b l.length c)] (HDc.out.get (.head _)) (by kernel_rfl) (by kernel_rfl) (by kernel_rfl) (by kernel_rfl) ?_; intro w901 g901 o901; have HD901 := Lib.hid (show Ds w S a len cap zs u w901 [(R6, #[.int .i64 n0, .int .i64 n1, .int .i64 n2, .int .i64 n3, .int .i64 n4, .int .i64 n5, .int .i64 n6, .bool n7, .int .i64 ad, .int .i64 2, .int .i64 lf, (.slice b l.length c)], 27), (R1, #[.int .i64 0, .int .i64 0, .int .i64 0, .int .i64 0, .int .i64 0, .int .i64 0, .int .i64 0, .bool false, .int .i64 0, .int .i64 0, .int .i64 0, .slice none 0 0], 27)] [(B, .slice b l.length c, l)] from HDc.out.put 0 rfl g901 o901 (by decide) (List.forall_mem_cons.2 ⟨Nat.ne_of_lt qR6_R1, (fun _ h => nomatch h)⟩) rfl); clear g901 o901)
                  | ((with_reducible refine @id (wpList _ _ _ _ _ _) ?_); refine wpList_put_at rfl 2 (.tmp 53) (.const (.int .i64 0)) rfl rfl (R6) 10 rfl (.int .i64 0) rfl #[.int .i64 0] rfl 27 #[.int .i64 n0, .int .i64 n1, .int .i64 n2, .int .i64 n3, .int .i64 n4, .int .i64 n5, .int .i64 n6, .bool n7, .int .i64 ad, .int .i64 2, .int .i64 lf, (.slice b l.length c)] #[.int .i64 n0, .int .i64 n1, .int .i64 n2, .int .i64 n3, .int .i64 n4, .int .i64 n5, .int .i64 n6, .bool n7, .int .i64 ad, .int .i64 2, .int .i64 0, (.slice b l.length c)] (HD901.out.get (.head _)) (by kernel_rfl) (by kernel_rfl) (by kernel_rfl) (by kernel_rfl) ?_; intro w902 g902 o902; have HD902 := Lib.hid (show Ds w S a len cap zs u w902 [(R6, #[.int .i64 n0, .int .i64 n1, .int .i64 n2, .int .i64 n3, .int .i64 n4, .int .i64 n5, .int .i64 n6, .bool n7, .int .i64 ad, .int .i64 2, .int .i64 0, (.slice b l.length c)], 27), (R1, #[.int .i64 0, .int .i64 0, .int .i64 0, .int .i64 0, .int .i64 0, .int .i64 0, .int .i64 0, .bool false, .int .i64 0, .int .i64 0, .int .i64 0, .slice none 0 0], 27)] [(B, .slice b l.length c, l)] from HD901.out.put 0 rfl g902 o902 (by decide) (List.forall_mem_cons.2 ⟨Nat.ne_of_lt qR6_R1, (fun _ h => nomatch h)⟩) rfl); clear g902 o902))
                go_meet
                exact ⟨(n0), (n1), (n2), (n3), (n4), (n5), (n6), (n7), (ad), (2), (0), b, c, l, B, HLl.out, HD902.out⟩
            case rest =>
              have HSn := Lib.hid hcut
              clear hcut
              go_upto_region 13 with fail
              go_cut [55] (fun v wx => (∃ t, v = .bool t) ∧ CSt w S a len cap zs u R6 R1 252 wx)
              case first =>
                obtain ⟨n0, n1, n2, n3, n4, n5, n6, n7, ad, st, lf, b, c, l, B, hl, hds⟩ := HSn.out
                have HDc := Lib.hid hds
                have HLl := Lib.hid hl
                clear hds hl
                go_wp2_with fail
                refine (one_next HDc.out.dr 25 (by omega)).mono ?_
                rintro e w901 ⟨t, rfl, hd, hg⟩
                have HD901 := Lib.hid (show Ds w S a len cap zs u w901 [(R6, #[.int .i64 n0, .int .i64 n1, .int .i64 n2, .int .i64 n3, .int .i64 n4, .int .i64 n5, .int .i64 n6, .bool n7, .int .i64 ad, .int .i64 st, .int .i64 lf, (.slice b l.length c)], 27), (R1, #[.int .i64 0, .int .i64 0, .int .i64 0, .int .i64 0, .int .i64 0, .int .i64 0, .int .i64 0, .bool false, .int .i64 0, .int .i64 0, .int .i64 0, .slice none 0 0], 27)] [(B, .slice b l.length c, l)] from HDc.out.drawn hd hg)
                clear hd hg
                go_wp2_with fail
                go_meet
                exact ⟨⟨_, rfl⟩, ⟨(n0), (n1), (n2), (n3), (n4), (n5), (n6), (n7), (ad), (st), (lf), b, c, l, B, HLl.out, HD901.out⟩⟩
              case rest =>
                obtain ⟨⟨t, rfl⟩, hcs⟩ := hcut
                have HSn := Lib.hid hcs
                clear hcs
                go_upto_if 55 with fail
                go_cut [56] (fun v wx => CSt w S a len cap zs u R6 R1 252 wx)
                case first =>
                  cases t
                  · go_wp2_with fail
                    go_meet
                    exact CSt.wide HSn.out (by omega)
                  · skip
                    obtain ⟨n0, n1, n2, n3, n4, n5, n6, n7, ad, st, lf, b, c, l, B, hl, hds⟩ := HSn.out
                    have HDc := Lib.hid hds
                    have HLl := Lib.hid hl
                    clear hds hl
                    go_wp2_with (first
                      | ((with_reducible refine @id (wpList _ _ _ _ _ _) ?_); refine wpList_put_at rfl 25 (.tmp 56) (.const (.slice none 0 0)) rfl rfl (R6) 11 rfl (.slice none 0 0) rfl #[.slice none 0 0] rfl 27 #[.int .i64 n0, .int .i64 n1, .int .i64 n2, .int .i64 n3, .int .i64 n4, .int .i64 n5, .int .i64 n6, .bool n7, .int .i64 ad, .int .i64 st, .int .i64 lf, (.slice b l.length c)] #[.int .i64 n0, .int .i64 n1, .int .i64 n2, .int .i64 n3, .int .i64 n4, .int .i64 n5, .int .i64 n6, .bool n7, .int .i64 ad, .int .i64 st, .int .i64 lf, .slice none 0 0] (HDc.out.get (.head _)) (by kernel_rfl) (by kernel_rfl) (by kernel_rfl) (by kernel_rfl) ?_; intro w901 g901 o901; have HD901 := Lib.hid (show Ds w S a len cap zs u w901 [(R6, #[.int .i64 n0, .int .i64 n1, .int .i64 n2, .int .i64 n3, .int .i64 n4, .int .i64 n5, .int .i64 n6, .bool n7, .int .i64 ad, .int .i64 st, .int .i64 lf, .slice none 0 0], 27), (R1, #[.int .i64 0, .int .i64 0, .int .i64 0, .int .i64 0, .int .i64 0, .int .i64 0, .int .i64 0, .bool false, .int .i64 0, .int .i64 0, .int .i64 0, .slice none 0 0], 27)] [(B, .slice b l.length c, l)] from HDc.out.put 0 rfl g901 o901 (by decide) (List.forall_mem_cons.2 ⟨Nat.ne_of_lt qR6_R1, (fun _ h => nomatch h)⟩) rfl); clear g901 o901))
                    have HSl := Lib.hid (show CSt w S a len cap zs u R6 R1 0 w901 from ⟨n0, n1, n2, n3, n4, n5, n6, n7, ad, st, lf, none, 0, [], u.heap.size, by simp, (HD901.out.less (os' := []) (fun r hr => hr) (fun o ho => by cases ho)).addOwn (World.ownsRow_nil _ _ _ _) (Nat.le_refl _) HD901.out.grown.size⟩)
                    clear HD901 HDc HSn HLl
                    clear n0 n1 n2 n3 n4 n5 n6 n7 ad st lf b c l B
                    go_loopw [6] (fun s6 wr => ∃ i : Nat, s6 = .int .i64 (i : Int) ∧ i ≤ 252 ∧ CSt w S a len cap zs u R6 R1 i wr) (fun s6 _ => 252 - (intOf s6).toNat)
                    case atStart => exact ⟨0, rfl, by omega, HSl.out⟩
                    case round =>
                      obtain ⟨i, rfl, hi, hcs⟩ := hrel
                      obtain ⟨n0, n1, n2, n3, n4, n5, n6, n7, ad, st, lf, b, c, l, B, hl, hds⟩ := hcs
                      have HDc := Lib.hid hds
                      have HLl := Lib.hid hl
                      clear hds hl
                      obtain ⟨i0, hi0, hz0, hz1, hz2⟩ := info_parts NumsTo.info
                      go_wp2_with fail
                      refine (n_next HDc.out.dr 2 (by omega)).mono ?_
                      rintro e w901 ⟨x, rfl, x0, xm, hd, hg⟩
                      have HD901 := Lib.hid (show Ds w S a len cap zs u w901 [(R6, #[.int .i64 n0, .int .i64 n1, .int .i64 n2, .int .i64 n3, .int .i64 n4, .int .i64 n5, .int .i64 n6, .bool n7, .int .i64 ad, .int .i64 st, .int .i64 lf, (.slice b l.length c)], 27), (R1, #[.int .i64 0, .int .i64 0, .int .i64 0, .int .i64 0, .int .i64 0, .int .i64 0, .int .i64 0, .bool false, .int .i64 0, .int .i64 0, .int .i64 0, .slice none 0 0], 27)] [(B, .slice b l.length c, l)] from HDc.out.drawn hd hg)
                      clear hd hg
                      have hwx : IntKind.i64.wrap (251 + x) = 251 + x := IntWalk.i64_in _ (by omega)
                      by_cases hlt : (i : Int) < 251 + x
                      · have hd1 : decide ((i : Int) < 251 + x) = true := decide_eq_true hlt
                        have hwi : IntKind.i64.wrap ((i : Int) + 1) = ((i + 1 : Nat) : Int) := by rw [IntWalk.i64_in _ (by omega)]; omega
                        go_wp2_with (first
                          | (refine wpList_load_one rfl 25 (.tmp 64) rfl (R6) 11 rfl 27 #[.int .i64 n0, .int .i64 n1, .int .i64 n2, .int .i64 n3, .int .i64 n4, .int .i64 n5, .int .i64 n6, .bool n7, .int .i64 ad, .int .i64 st, .int .i64 lf, (.slice b l.length c)] (0, 0) (HD901.out.get (.head _)) ((.slice b l.length c)) rfl _ Try.underlying25 rfl (by kernel_rfl) ?_)
                          | (at_builtin; refine wpList_append_nums rfl (.tmp 65) (.tmp 67) 25 rfl B 2 i0 (.int .i64 0) 8 Try.underlying25 hi0 hz0 hz1 hz2 rfl _ l.length (ncells l) rfl ((HD901.out.own _ (.head _)).2.alloc _) (some ⟨w901.heap.size, 0, none⟩) 1 [(i : Int)] 1 rfl (by rfl) (nums_one w901 _ _) (by have := HLl.out; unfold maxLen; omega) (by have := HLl.out; omega) (by have h1 : B ≤ w901.heap.size := (HD901.out.own _ (.head _)).1.2; simp; omega) ?_; intro v5 w902 how hgr; have HW5 := Lib.hid (show w902.ownsRow B 2 1 v5 (l ++ [(i : Int)]).length (ncells (l ++ [(i : Int)])) from (by rw [ncells_append, List.length_append]; exact how)); have HD902 := Lib.hid (show Ds w S a len cap zs u w902 [(R6, #[.int .i64 n0, .int .i64 n1, .int .i64 n2, .int .i64 n3, .int .i64 n4, .int .i64 n5, .int .i64 n6, .bool n7, .int .i64 ad, .int .i64 st, .int .i64 lf, (.slice b l.length c)], 27), (R1, #[.int .i64 0, .int .i64 0, .int .i64 0, .int .i64 0, .int .i64 0, .int .i64 0, .int .i64 0, .bool false, .int .i64 0, .int .i64 0, .int .i64 0, .slice none 0 0], 27)] [(B, v5, l ++ [(i : Int)])] from (HD901.out.made ((Below.refl _ _).alloc (Nat.le_refl _) _)).appended hgr HW5.out (by simp)); clear how hgr)
                          | (refine wpList_put_at rfl 25 (.tmp 69) (.tmp 68) rfl rfl (R6) 11 rfl v5 rfl #[v5] (by obtain ⟨q, c, rfl⟩ := owns_slice HW5.out; rfl) 27 #[.int .i64 n0, .int .i64 n1, .int .i64 n2, .int .i64 n3, .int .i64 n4, .int .i64 n5, .int .i64 n6, .bool n7, .int .i64 ad, .int .i64 st, .int .i64 lf, (.slice b l.length c)] #[.int .i64 n0, .int .i64 n1, .int .i64 n2, .int .i64 n3, .int .i64 n4, .int .i64 n5, .int .i64 n6, .bool n7, .int .i64 ad, .int .i64 st, .int .i64 lf, v5] (HD902.out.get (.head _)) (by kernel_rfl) (by kernel_rfl) (by obtain ⟨q, c, rfl⟩ := owns_slice HW5.out; rfl) (by kernel_rfl) ?_; intro w903 gn on; have HD903 := Lib.hid (show Ds w S a len cap zs u w903 [(R6, #[.int .i64 n0, .int .i64 n1, .int .i64 n2, .int .i64 n3, .int .i64 n4, .int .i64 n5, .int .i64 n6, .bool n7, .int .i64 ad, .int .i64 st, .int .i64 lf, v5], 27), (R1, #[.int .i64 0, .int .i64 0, .int .i64 0, .int .i64 0, .int .i64 0, .int .i64 0, .int .i64 0, .bool false, .int .i64 0, .int .i64 0, .int .i64 0, .slice none 0 0], 27)] [(B, v5, l ++ [(i : Int)])] from HD902.out.put 0 rfl gn on (by decide) (List.forall_mem_cons.2 ⟨Nat.ne_of_lt qR6_R1, (fun _ h => nomatch h)⟩) rfl); clear gn on))
                        go_roundw
                        case rel =>
                          obtain ⟨q5, c5, hv5⟩ := owns_slice HW5.out
                          refine ⟨i + 1, by go_num, by omega, n0, n1, n2, n3, n4, n5, n6, n7, ad, st, lf, q5, c5, l ++ [(i : Int)], B, by have := HLl.out; simp; omega, ?_⟩
                          have := HD903.out
                          rw [hv5] at this
                          exact this
                        case measure => simp [intOf]; omega
                      · have hd1 : decide ((i : Int) < 251 + x) = false := decide_eq_false hlt
                        go_wp2_with fail
                        go_meet
                        exact ⟨n0, n1, n2, n3, n4, n5, n6, n7, ad, st, lf, b, c, l, B, by have := HLl.out; omega, HD901.out⟩
                case rest =>
                  have HSn := Lib.hid hcut
                  clear hcut
                  go_upto_region 19 with fail
                  go_cut [71] (fun v wx => (∃ t, v = .bool t) ∧ CSt w S a len cap zs u R6 R1 252 wx)
                  case first =>
                    obtain ⟨n0, n1, n2, n3, n4, n5, n6, n7, ad, st, lf, b, c, l, B, hl, hds⟩ := HSn.out
                    have HDc := Lib.hid hds
                    have HLl := Lib.hid hl
                    clear hds hl
                    go_wp2_with fail
                    refine (one_next HDc.out.dr 15 (by omega)).mono ?_
                    rintro e w901 ⟨t, rfl, hd, hg⟩
                    have HD901 := Lib.hid (show Ds w S a len cap zs u w901 [(R6, #[.int .i64 n0, .int .i64 n1, .int .i64 n2, .int .i64 n3, .int .i64 n4, .int .i64 n5, .int .i64 n6, .bool n7, .int .i64 ad, .int .i64 st, .int .i64 lf, (.slice b l.length c)], 27), (R1, #[.int .i64 0, .int .i64 0, .int .i64 0, .int .i64 0, .int .i64 0, .int .i64 0, .int .i64 0, .bool false, .int .i64 0, .int .i64 0, .int .i64 0, .slice none 0 0], 27)] [(B, .slice b l.length c, l)] from HDc.out.drawn hd hg)
                    clear hd hg
                    go_wp2_with fail
                    go_meet
                    exact ⟨⟨_, rfl⟩, ⟨(n0), (n1), (n2), (n3), (n4), (n5), (n6), (n7), (ad), (st), (lf), b, c, l, B, HLl.out, HD901.out⟩⟩
                  case rest =>
                    obtain ⟨⟨t, rfl⟩, hcs⟩ := hcut
                    have HSn := Lib.hid hcs
                    clear hcs
                    go_upto_if 71 with fail
                    go_cut [72] (fun v wx => CSt w S a len cap zs u R6 R1 300 wx)
                    case first =>
                      cases t
                      · go_wp2_with fail
                        go_meet
                        exact CSt.wide HSn.out (by omega)
                      · skip
                        obtain ⟨n0, n1, n2, n3, n4, n5, n6, n7, ad, st, lf, b, c, l, B, hl, hds⟩ := HSn.out
                        have HDc := Lib.hid hds
                        have HLl := Lib.hid hl
                        clear hds hl
                        go_wp2_with fail
                        refine (n_next HDc.out.dr 4 (by omega)).mono ?_
                        rintro e w901 ⟨x, rfl, x0, xm, hd, hg⟩
                        have HD901 := Lib.hid (show Ds w S a len cap zs u w901 [(R6, #[.int .i64 n0, .int .i64 n1, .int .i64 n2, .int .i64 n3, .int .i64 n4, .int .i64 n5, .int .i64 n6, .bool n7, .int .i64 ad, .int .i64 st, .int .i64 lf, (.slice b l.length c)], 27), (R1, #[.int .i64 0, .int .i64 0, .int .i64 0, .int .i64 0, .int .i64 0, .int .i64 0, .int .i64 0, .bool false, .int .i64 0, .int .i64 0, .int .i64 0, .slice none 0 0], 27)] [(B, .slice b l.length c, l)] from HDc.out.drawn hd hg)
                        clear hd hg
                        have hlw := HLl.out
                        by_cases hx0 : x = 0
                        · have d0 : (x == 0) = true := by simpa using hx0
                          go_wp2_with fail
                          refine (n_next HD901.out.dr 5 (by omega)).mono ?_
                          rintro e w902 ⟨y, rfl, y0, ym, hd, hg⟩
                          have HD902 := Lib.hid (show Ds w S a len cap zs u w902 [(R6, #[.int .i64 n0, .int .i64 n1, .int .i64 n2, .int .i64 n3, .int .i64 n4, .int .i64 n5, .int .i64 n6, .bool n7, .int .i64 ad, .int .i64 st, .int .i64 lf, (.slice b l.length c)], 27), (R1, #[.int .i64 0, .int .i64 0, .int .i64 0, .int .i64 0, .int .i64 0, .int .i64 0, .int .i64 0, .bool false, .int .i64 0, .int .i64 0, .int .i64 0, .slice none 0 0], 27)] [(B, .slice b l.length c, l)] from HD901.out.drawn hd hg)
                          clear hd hg
                          go_wp2_with (first
                            | ((with_reducible refine @id (wpList _ _ _ _ _ _) ?_); refine wpList_put_at rfl 2 (.tmp 85) (.tmp 84) rfl rfl (R6) 9 rfl (.int .i64 y) rfl #[.int .i64 y] rfl 27 #[.int .i64 n0, .int .i64 n1, .int .i64 n2, .int .i64 n3, .int .i64 n4, .int .i64 n5, .int .i64 n6, .bool n7, .int .i64 ad, .int .i64 st, .int .i64 lf, (.slice b l.length c)] #[.int .i64 n0, .int .i64 n1, .int .i64 n2, .int .i64 n3, .int .i64 n4, .int .i64 n5, .int .i64 n6, .bool n7, .int .i64 ad, .int .i64 y, .int .i64 lf, (.slice b l.length c)] (HD902.out.get (.head _)) (by kernel_rfl) (by kernel_rfl) (by kernel_rfl) (by kernel_rfl) ?_; intro w903 g903 o903; have HD903 := Lib.hid (show Ds w S a len cap zs u w903 [(R6, #[.int .i64 n0, .int .i64 n1, .int .i64 n2, .int .i64 n3, .int .i64 n4, .int .i64 n5, .int .i64 n6, .bool n7, .int .i64 ad, .int .i64 y, .int .i64 lf, (.slice b l.length c)], 27), (R1, #[.int .i64 0, .int .i64 0, .int .i64 0, .int .i64 0, .int .i64 0, .int .i64 0, .int .i64 0, .bool false, .int .i64 0, .int .i64 0, .int .i64 0, .slice none 0 0], 27)] [(B, .slice b l.length c, l)] from HD902.out.put 0 rfl g903 o903 (by decide) (List.forall_mem_cons.2 ⟨Nat.ne_of_lt qR6_R1, (fun _ h => nomatch h)⟩) rfl); clear g903 o903))
                          go_meet
                          exact ⟨(n0), (n1), (n2), (n3), (n4), (n5), (n6), (n7), (ad), (y), (lf), b, c, l, B, by omega, HD903.out⟩
                        have d0 : (x == 0) = false := by simpa using hx0
                        by_cases hx1 : x = 1
                        · have d1 : (x == 1) = true := by simpa using hx1
                          go_wp2_with fail
                          refine (n_next (HD901.out.made ((Below.refl _ _).alloc (Nat.le_refl _) _)).dr 4 (by omega)).mono ?_
                          rintro e w902 ⟨y, rfl, y0, ym, hd, hg⟩
                          have hy4 : y < 4 := by omega
                          obtain ⟨v, hv, _⟩ := pick_cell ([-1, 251, 252, 254] : List Int) HD901.out.dr.src.lt hg y.toNat (by show y.toNat < 4; omega)
                          have HD902 := Lib.hid (show Ds w S a len cap zs u w902 [(R6, #[.int .i64 n0, .int .i64 n1, .int .i64 n2, .int .i64 n3, .int .i64 n4, .int .i64 n5, .int .i64 n6, .bool n7, .int .i64 ad, .int .i64 st, .int .i64 lf, (.slice b l.length c)], 27), (R1, #[.int .i64 0, .int .i64 0, .int .i64 0, .int .i64 0, .int .i64 0, .int .i64 0, .int .i64 0, .bool false, .int .i64 0, .int .i64 0, .int .i64 0, .slice none 0 0], 27)] [(B, .slice b l.length c, l)] from (HD901.out.made ((Below.refl _ _).alloc (Nat.le_refl _) _)).drawn hd hg)
                          clear hd hg
                          go_wp2_with (first
                            | ((with_reducible refine @id (wpList _ _ _ _ _ _) ?_); refine wpList_put_at rfl 2 (.tmp 93) (.tmp 92) rfl rfl (R6) 8 rfl (.int .i64 v) rfl #[.int .i64 v] rfl 27 #[.int .i64 n0, .int .i64 n1, .int .i64 n2, .int .i64 n3, .int .i64 n4, .int .i64 n5, .int .i64 n6, .bool n7, .int .i64 ad, .int .i64 st, .int .i64 lf, (.slice b l.length c)] #[.int .i64 n0, .int .i64 n1, .int .i64 n2, .int .i64 n3, .int .i64 n4, .int .i64 n5, .int .i64 n6, .bool n7, .int .i64 v, .int .i64 st, .int .i64 lf, (.slice b l.length c)] (HD902.out.get (.head _)) (by kernel_rfl) (by kernel_rfl) (by kernel_rfl) (by kernel_rfl) ?_; intro w903 g903 o903; have HD903 := Lib.hid (show Ds w S a len cap zs u w903 [(R6, #[.int .i64 n0, .int .i64 n1, .int .i64 n2, .int .i64 n3, .int .i64 n4, .int .i64 n5, .int .i64 n6, .bool n7, .int .i64 v, .int .i64 st, .int .i64 lf, (.slice b l.length c)], 27), (R1, #[.int .i64 0, .int .i64 0, .int .i64 0, .int .i64 0, .int .i64 0, .int .i64 0, .int .i64 0, .bool false, .int .i64 0, .int .i64 0, .int .i64 0, .slice none 0 0], 27)] [(B, .slice b l.length c, l)] from HD902.out.put 0 rfl g903 o903 (by decide) (List.forall_mem_cons.2 ⟨Nat.ne_of_lt qR6_R1, (fun _ h => nomatch h)⟩) rfl); clear g903 o903))
                          go_meet
                          exact ⟨(n0), (n1), (n2), (n3), (n4), (n5), (n6), (n7), (v), (st), (lf), b, c, l, B, by omega, HD903.out⟩
                        have d1 : (x == 1) = false := by simpa using hx1
                        by_cases hx2 : x = 2
                        · have d2 : (x == 2) = true := by simpa using hx2
                          go_wp2_with fail
                          refine (n_next (HD901.out.made ((Below.refl _ _).alloc (Nat.le_refl _) _)).dr 4 (by omega)).mono ?_
                          rintro e w902 ⟨y, rfl, y0, ym, hd, hg⟩
                          have hy4 : y < 4 := by omega
                          obtain ⟨v, hv, _⟩ := pick_cell ([-1, 0, 250, 251] : List Int) HD901.out.dr.src.lt hg y.toNat (by show y.toNat < 4; omega)
                          have HD902 := Lib.hid (show Ds w S a len cap zs u w902 [(R6, #[.int .i64 n0, .int .i64 n1, .int .i64 n2, .int .i64 n3, .int .i64 n4, .int .i64 n5, .int .i64 n6, .bool n7, .int .i64 ad, .int .i64 st, .int .i64 lf, (.slice b l.length c)], 27), (R1, #[.int .i64 0, .int .i64 0, .int .i64 0, .int .i64 0, .int .i64 0, .int .i64 0, .int .i64 0, .bool false, .int .i64 0, .int .i64 0, .int .i64 0, .slice none 0 0], 27)] [(B, .slice b l.length c, l)] from (HD901.out.made ((Below.refl _ _).alloc (Nat.le_refl _) _)).drawn hd hg)
                          clear hd hg
                          go_wp2_with (first
                            | ((with_reducible refine @id (wpList _ _ _ _ _ _) ?_); refine wpList_put_at rfl 2 (.tmp 101) (.tmp 100) rfl rfl (R6) 10 rfl (.int .i64 v) rfl #[.int .i64 v] rfl 27 #[.int .i64 n0, .int .i64 n1, .int .i64 n2, .int .i64 n3, .int .i64 n4, .int .i64 n5, .int .i64 n6, .bool n7, .int .i64 ad, .int .i64 st, .int .i64 lf, (.slice b l.length c)] #[.int .i64 n0, .int .i64 n1, .int .i64 n2, .int .i64 n3, .int .i64 n4, .int .i64 n5, .int .i64 n6, .bool n7, .int .i64 ad, .int .i64 st, .int .i64 v, (.slice b l.length c)] (HD902.out.get (.head _)) (by kernel_rfl) (by kernel_rfl) (by kernel_rfl) (by kernel_rfl) ?_; intro w903 g903 o903; have HD903 := Lib.hid (show Ds w S a len cap zs u w903 [(R6, #[.int .i64 n0, .int .i64 n1, .int .i64 n2, .int .i64 n3, .int .i64 n4, .int .i64 n5, .int .i64 n6, .bool n7, .int .i64 ad, .int .i64 st, .int .i64 v, (.slice b l.length c)], 27), (R1, #[.int .i64 0, .int .i64 0, .int .i64 0, .int .i64 0, .int .i64 0, .int .i64 0, .int .i64 0, .bool false, .int .i64 0, .int .i64 0, .int .i64 0, .slice none 0 0], 27)] [(B, .slice b l.length c, l)] from HD902.out.put 0 rfl g903 o903 (by decide) (List.forall_mem_cons.2 ⟨Nat.ne_of_lt qR6_R1, (fun _ h => nomatch h)⟩) rfl); clear g903 o903))
                          go_meet
                          exact ⟨(n0), (n1), (n2), (n3), (n4), (n5), (n6), (n7), (ad), (st), (v), b, c, l, B, by omega, HD903.out⟩
                        have d2 : (x == 2) = false := by simpa using hx2
                        obtain ⟨i0, hi0, hz0, hz1, hz2⟩ := info_parts NumsTo.info
                        go_wp2_with fail
                        have neC : R6 ≠ S := by have := HD901.out.old; have := (HD901.out.row _ (.head _)).1; show R6 ≠ S; intro e; subst e; omega
                        have c5 := cell_of_row w901 R6 11 _ _ (0, 0) (HD901.out.get (.head _))
                        simp only [List.getElem?_toArray, List.getElem?_cons_zero, List.getElem?_cons_succ] at c5
                        have HDw := Lib.hid (HD901.out.made (Below.refl _ _).drew)
                        go_region_law (first
                          | (refine step_append_num (by rfl) _ _ 25 (by rfl) B 2 i0 (.int .i64 0) 8 Try.underlying25 hi0 hz0 hz1 hz2 rfl (.slice b l.length c) l.length (ncells l) (by rfl) ((HD902.out.own _ (.head _)).2.alloc _) w902.heap.size 1 y (by rfl) (nums_one w902 _ _) (by unfold maxLen; omega) (by omega) (by have h1 : B ≤ w902.heap.size := (HD902.out.own _ (.head _)).1.2; simp; omega) ?_; intro v5 w903 how hgr; have HW5 := Lib.hid (show w903.ownsRow B 2 1 v5 (l ++ [y]).length (ncells (l ++ [y])) from (by rw [ncells_append, List.length_append]; exact how)); have HD903 := Lib.hid (show Ds w S a len cap zs u w903 [(R6, #[.int .i64 n0, .int .i64 n1, .int .i64 n2, .int .i64 n3, .int .i64 n4, .int .i64 n5, .int .i64 n6, .bool n7, .int .i64 ad, .int .i64 st, .int .i64 lf, (.slice b l.length c)], 27), (R1, #[.int .i64 0, .int .i64 0, .int .i64 0, .int .i64 0, .int .i64 0, .int .i64 0, .int .i64 0, .bool false, .int .i64 0, .int .i64 0, .int .i64 0, .slice none 0 0], 27)] [(B, v5, l ++ [y])] from (HD902.out.made ((Below.refl _ _).alloc (Nat.le_refl _) _)).appended hgr HW5.out (by simp)); have c9 := cell_of_row w903 R6 11 _ _ (0, 0) (HD903.out.get (.head _)); have f9 := frozen_of_row w903 R6 11 _ _ (HD903.out.get (.head _)); simp only [List.getElem?_toArray, List.getElem?_cons_zero, List.getElem?_cons_succ] at c9; obtain ⟨q5, e5, rfl⟩ := owns_slice HW5.out; clear how hgr)
                          | (go_simp; go_at_call 56; refine (n_next HDw.out.dr 6 (by decide)).mono ?_; rintro e w902 ⟨y, rfl, y0, ym, hd, hg⟩; have HD902 := Lib.hid (HDw.out.drawn hd hg); have c6 := cell_of_row w902 R6 11 _ _ (0, 0) (HD902.out.get (.head _)); simp only [List.getElem?_toArray, List.getElem?_cons_zero, List.getElem?_cons_succ] at c6; have l6 := HD902.out.lt (.head _); clear hd hg))
                        all_goals
                          go_wp2_with fail
                          go_meet
                          refine ⟨n0, n1, n2, n3, n4, n5, n6, n7, ad, st, lf, q5, e5, l ++ [y], B, by simp; omega, ?_⟩
                          exact HD903.out.put 0 rfl (Go.heap_setCell_same _ R6 11 _ _ _ (HD903.out.get (.head _))) ((Out.refl _ _ _).setCell (p := ⟨R6, 11, none⟩) (Nat.le_refl _) (Nat.lt_succ_self _) _) (by decide) (List.forall_mem_cons.2 ⟨Nat.ne_of_lt qR6_R1, (fun _ h => nomatch h)⟩) (by rw [List.length_append]; rfl)
                    case rest =>
                      have HSn := Lib.hid hcut
                      clear hcut
                      obtain ⟨n0, n1, n2, n3, n4, n5, n6, n7, ad, st, lf, b, c, l, B, hl, hds⟩ := HSn.out
                      have HDc := Lib.hid hds
                      have HLl := Lib.hid hl
                      clear hds hl
                      go_wp2_with (first
                        | ((with_reducible refine @id (wpList _ _ _ _ _ _) ?_); refine wpList_load_at rfl 27 (.tmp 3) rfl (R6) 0 rfl 27 #[.int .i64 n0, .int .i64 n1, .int .i64 n2, .int .i64 n3, .int .i64 n4, .int .i64 n5, .int .i64 n6, .bool n7, .int .i64 ad, .int .i64 st, .int .i64 lf, (.slice b l.length c)] (0, 0) (HDc.out.get (.head _)) [.int .i64 n0, .int .i64 n1, .int .i64 n2, .int .i64 n3, .int .i64 n4, .int .i64 n5, .int .i64 n6, .bool n7, .int .i64 ad, .int .i64 st, .int .i64 lf, (.slice b l.length c)] rfl _ Try.underlying27 rfl (by kernel_rfl) ?_)
                        | ((with_reducible refine @id (wpList _ _ _ _ _ _) ?_); refine wpList_put_at rfl 27 (.tmp 2) (.tmp 102) rfl rfl (R1) 0 rfl (.agg #[.int .i64 n0, .int .i64 n1, .int .i64 n2, .int .i64 n3, .int .i64 n4, .int .i64 n5, .int .i64 n6, .bool n7, .int .i64 ad, .int .i64 st, .int .i64 lf, (.slice b l.length c)]) rfl #[.int .i64 n0, .int .i64 n1, .int .i64 n2, .int .i64 n3, .int .i64 n4, .int .i64 n5, .int .i64 n6, .bool n7, .int .i64 ad, .int .i64 st, .int .i64 lf, (.slice b l.length c)] rfl 27 #[.int .i64 0, .int .i64 0, .int .i64 0, .int .i64 0, .int .i64 0, .int .i64 0, .int .i64 0, .bool false, .int .i64 0, .int .i64 0, .int .i64 0, .slice none 0 0] #[.int .i64 n0, .int .i64 n1, .int .i64 n2, .int .i64 n3, .int .i64 n4, .int .i64 n5, .int .i64 n6, .bool n7, .int .i64 ad, .int .i64 st, .int .i64 lf, (.slice b l.length c)] (HDc.out.get (.tail _ (.head _))) (by kernel_rfl) (by kernel_rfl) (by kernel_rfl) (by kernel_rfl) ?_; intro w901 g901 o901; have HD901 := Lib.hid (show Ds w S a len cap zs u w901 [(R6, #[.int .i64 n0, .int .i64 n1, .int .i64 n2, .int .i64 n3, .int .i64 n4, .int .i64 n5, .int .i64 n6, .bool n7, .int .i64 ad, .int .i64 st, .int .i64 lf, (.slice b l.length c)], 27), (R1, #[.int .i64 n0, .int .i64 n1, .int .i64 n2, .int .i64 n3, .int .i64 n4, .int .i64 n5, .int .i64 n6, .bool n7, .int .i64 ad, .int .i64 st, .int .i64 lf, (.slice b l.length c)], 27)] [(B, .slice b l.length c, l)] from HDc.out.put 1 rfl g901 o901 (by decide) (List.forall_mem_cons.2 ⟨Nat.ne_of_gt qR6_R1, (fun _ h => nomatch h)⟩) rfl); clear g901 o901; apply wpList_nil; simp only [Exit.then]; go_step; go_step; exact bodyPost_ret (results_cell_row (p := 2) (ty := 27) (by kernel_rfl) _ _ (R1) 27 _ (0, 0) _ rfl (HD901.out.get (.tail _ (.head _))) Try.underlying27 rfl (by kernel_rfl)) rfl (by rw [← HPost.out]; exact ⟨⟨n0, n1, n2, n3, n4, n5, n6, n7⟩, ad, st, lf, b, c, l, rfl, by have := HLl.out; omega, HD901.out.numsNew (.head _), HD901.out.dr, HD901.out.grown⟩)))
end
end Go.Proofs.Ytdhmcepnmbchkaa
