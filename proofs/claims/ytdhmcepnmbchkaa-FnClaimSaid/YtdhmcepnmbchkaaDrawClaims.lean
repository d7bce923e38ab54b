/- The Claims that the laws draw. Nothing that was there is written. -/
import Derived.Test.YtdhmcepnmbchkaaDrawClaim
namespace Go.Proofs.Ytdhmcepnmbchkaa
open Go.RowKit
set_option linter.unusedVariables false
section
variable {w : World} {a : Option Addr} {len cap : Nat} {zs : List Int}
set_option maxRecDepth 100000 in
set_option maxHeartbeats 4000000 in
theorem drawClaimCan_any (hr : RowIn w a len zs) (hlen : len ≤ 1048576) (hba : 0 < len → ∀ b o, a = some ⟨b, o, none⟩ → b < w.heap.size) :
    Calls Try.prog 15 #[.slice a len cap] w fun e w' => ∃ (n : Nm) (ad st lf : Int) (b : Option Addr) (c : Nat) (l : List Int), e = .returned (clV n ad st lf (.slice b l.length c)) ∧ l.length ≤ 1000 ∧ NumsNew w.heap.size w'.heap.size w' b l ∧ Below w.heap.size w w' := by
  go_enter Try.func15, Try.ntmps15
  go_wp2_with (first
    | ((with_reducible refine @id (wpList _ _ _ _ _ _) ?_); refine wpList_alloc_h rfl 27 rfl (.agg #[.int .i64 0, .int .i64 0, .int .i64 0, .int .i64 0, .int .i64 0, .int .i64 0, .int .i64 0, .bool false, .int .i64 0, .int .i64 0, .int .i64 0, .slice none 0 0]) (by kernel_rfl) #[.int .i64 0, .int .i64 0, .int .i64 0, .int .i64 0, .int .i64 0, .int .i64 0, .int .i64 0, .bool false, .int .i64 0, .int .i64 0, .int .i64 0, .slice none 0 0] rfl ?_; intro w1 R1 e1 g1 b1))
  have HS := Lib.hid (source_next (cap := cap) (hr.kept b1 hba) hlen (fun p b o e => Nat.lt_of_lt_of_le (hba p b o e) b1.size))
  refine HS.out.mono ?_
  rintro e u0 ⟨rfl, h0⟩
  go_wp2_with fail
  refine (claim_next h0).mono ?_
  rintro e u1 ⟨⟨n0, n1, n2, n3, n4, n5, n6, n7⟩, ad, st, lf, b, c, l, rfl, hl, hn, hd, hg⟩
  have r1 : R1 < w1.heap.size := heap_lt g1
  have HG := Lib.hid ((hd.below.block R1 r1).trans g1)
  have HN := Lib.hid (hn.wide h0.below.size (Nat.le_refl _))
  have HB := Lib.hid (b1.trans (hd.below.mono b1.size))
  have HL := Lib.hid hl
  have HR := Lib.hid r1
  have HE := Lib.hid (Nat.le_of_eq e1)
  have HZ := Lib.hid b1.size
  clear h0 hn hd hg hl r1 e1 g1 b1 HS hr hba hlen
  unfold clV
  dsimp only
  go_wp2_with (first
    | ((with_reducible refine @id (wpList _ _ _ _ _ _) ?_); refine wpList_put_at rfl 27 (.tmp 2) (.tmp 5) rfl rfl (R1) 0 rfl (.agg #[.int .i64 n0, .int .i64 n1, .int .i64 n2, .int .i64 n3, .int .i64 n4, .int .i64 n5, .int .i64 n6, .bool n7, .int .i64 ad, .int .i64 st, .int .i64 lf, .slice b l.length c]) rfl #[.int .i64 n0, .int .i64 n1, .int .i64 n2, .int .i64 n3, .int .i64 n4, .int .i64 n5, .int .i64 n6, .bool n7, .int .i64 ad, .int .i64 st, .int .i64 lf, .slice b l.length c] rfl 27 #[.int .i64 0, .int .i64 0, .int .i64 0, .int .i64 0, .int .i64 0, .int .i64 0, .int .i64 0, .bool false, .int .i64 0, .int .i64 0, .int .i64 0, .slice none 0 0] #[.int .i64 n0, .int .i64 n1, .int .i64 n2, .int .i64 n3, .int .i64 n4, .int .i64 n5, .int .i64 n6, .bool n7, .int .i64 ad, .int .i64 st, .int .i64 lf, .slice b l.length c] HG.out (by kernel_rfl) (by kernel_rfl) (by kernel_rfl) (by kernel_rfl) ?_; intro w3 g3 o3))
  exact bodyPost_ret (results_cell_row (p := 2) (ty := 27) (by kernel_rfl) _ _ (R1) 27 _ (0, 0) _ rfl g3 Try.underlying27 rfl (by kernel_rfl)) rfl ⟨⟨n0, n1, n2, n3, n4, n5, n6, n7⟩, ad, st, lf, b, c, l, rfl, HL.out, (HN.out.out o3 (.inr HR.out)).wide HZ.out o3.size, o3.below HB.out HE.out HB.out.size⟩
set_option maxRecDepth 100000 in
set_option maxHeartbeats 4000000 in
theorem drawClaimTick_any (hr : RowIn w a len zs) (hlen : len ≤ 1048576) (hba : 0 < len → ∀ b o, a = some ⟨b, o, none⟩ → b < w.heap.size) :
    Calls Try.prog 14 #[.slice a len cap] w fun e w' => ∃ (n : Nm) (ad st lf : Int) (b : Option Addr) (c : Nat) (l : List Int), e = .returned (clV n ad st lf (.slice b l.length c)) ∧ l.length ≤ 1000 ∧ NumsNew w.heap.size w'.heap.size w' b l ∧ Below w.heap.size w w' := by
  go_enter Try.func14, Try.ntmps14
  go_wp2_with (first
    | ((with_reducible refine @id (wpList _ _ _ _ _ _) ?_); refine wpList_alloc_h rfl 27 rfl (.agg #[.int .i64 0, .int .i64 0, .int .i64 0, .int .i64 0, .int .i64 0, .int .i64 0, .int .i64 0, .bool false, .int .i64 0, .int .i64 0, .int .i64 0, .slice none 0 0]) (by kernel_rfl) #[.int .i64 0, .int .i64 0, .int .i64 0, .int .i64 0, .int .i64 0, .int .i64 0, .int .i64 0, .bool false, .int .i64 0, .int .i64 0, .int .i64 0, .slice none 0 0] rfl ?_; intro w1 R1 e1 g1 b1))
  have HS := Lib.hid (source_next (cap := cap) (hr.kept b1 hba) hlen (fun p b o e => Nat.lt_of_lt_of_le (hba p b o e) b1.size))
  refine HS.out.mono ?_
  rintro e u0 ⟨rfl, h0⟩
  go_wp2_with fail
  refine (claim_next h0).mono ?_
  rintro e u1 ⟨⟨n0, n1, n2, n3, n4, n5, n6, n7⟩, ad, st, lf, b, c, l, rfl, hl, hn, hd, hg⟩
  have r1 : R1 < w1.heap.size := heap_lt g1
  have HG := Lib.hid ((hd.below.block R1 r1).trans g1)
  have HN := Lib.hid (hn.wide h0.below.size (Nat.le_refl _))
  have HB := Lib.hid (b1.trans (hd.below.mono b1.size))
  have HL := Lib.hid hl
  have HR := Lib.hid r1
  have HE := Lib.hid (Nat.le_of_eq e1)
  have HZ := Lib.hid b1.size
  clear h0 hn hd hg hl r1 e1 g1 b1 HS hr hba hlen
  unfold clV
  dsimp only
  go_wp2_with (first
    | ((with_reducible refine @id (wpList _ _ _ _ _ _) ?_); refine wpList_put_at rfl 27 (.tmp 2) (.tmp 5) rfl rfl (R1) 0 rfl (.agg #[.int .i64 n0, .int .i64 n1, .int .i64 n2, .int .i64 n3, .int .i64 n4, .int .i64 n5, .int .i64 n6, .bool n7, .int .i64 ad, .int .i64 st, .int .i64 lf, .slice b l.length c]) rfl #[.int .i64 n0, .int .i64 n1, .int .i64 n2, .int .i64 n3, .int .i64 n4, .int .i64 n5, .int .i64 n6, .bool n7, .int .i64 ad, .int .i64 st, .int .i64 lf, .slice b l.length c] rfl 27 #[.int .i64 0, .int .i64 0, .int .i64 0, .int .i64 0, .int .i64 0, .int .i64 0, .int .i64 0, .bool false, .int .i64 0, .int .i64 0, .int .i64 0, .slice none 0 0] #[.int .i64 n0, .int .i64 n1, .int .i64 n2, .int .i64 n3, .int .i64 n4, .int .i64 n5, .int .i64 n6, .bool n7, .int .i64 ad, .int .i64 st, .int .i64 lf, .slice b l.length c] HG.out (by kernel_rfl) (by kernel_rfl) (by kernel_rfl) (by kernel_rfl) ?_; intro w3 g3 o3))
  exact bodyPost_ret (results_cell_row (p := 2) (ty := 27) (by kernel_rfl) _ _ (R1) 27 _ (0, 0) _ rfl g3 Try.underlying27 rfl (by kernel_rfl)) rfl ⟨⟨n0, n1, n2, n3, n4, n5, n6, n7⟩, ad, st, lf, b, c, l, rfl, HL.out, (HN.out.out o3 (.inr HR.out)).wide HZ.out o3.size, o3.below HB.out HE.out HB.out.size⟩
end
end Go.Proofs.Ytdhmcepnmbchkaa
