/- Whether a Queue is right, and what waits in it: the program's and the model's. Nothing that was there is written. -/
import Derived.Test.YtmfnbbjhaolhgaaCansTo
namespace Go.Proofs.Ytmfnbbjhaolhgaa
open Go.RowKit
set_option linter.unusedVariables false

/-- That Queue is right. -/
def qRightB (l : List (Int × ByteArray)) : Bool := decide (l.length ≤ 16) && allB l
theorem qRightB_long {l : List (Int × ByteArray)} (h : 16 < l.length) : qRightB l = false := by simp [qRightB]; omega
theorem qRightB_short {l : List (Int × ByteArray)} (h : l.length ≤ 16) : qRightB l = allB l := by simp [qRightB, h]
theorem qRightB_of {l : List (Int × ByteArray)} (h : qRightB l = true) : l.length ≤ 16 ∧ allB l = true := by simpa [qRightB] using h

set_option maxHeartbeats 1000000 in
theorem implQueueRight_any (a : Option Addr) (cap : Nat) (l : List (Int × ByteArray)) (w : World) (h : CansIn w a l) (hok : CansOk l) (hlen : l.length ≤ 1048576) :
    Calls Try.prog 19 #[.agg #[.slice a l.length cap]] w fun e w' => e = .returned (.bool (qRightB l)) ∧ Below w.heap.size w w' := by
  have hb0 := fun o : Obj => (Below.refl w.heap.size w).alloc (Nat.le_refl _) o
  have HB := Lib.hid hb0
  have HC := Lib.hid h
  clear hb0 h
  by_cases h16 : l.length ≤ 16
  · have hd : decide ((l.length : Int) ≤ 16) = true := decide_eq_true (by omega)
    have HQ := Lib.hid (qRightB_short h16)
    have HA := fun W hW => Lib.hid (implAllRight_any a cap l W hW hok hlen)
    clear h16
    go_enter Try.func19, Try.ntmps19
    go_wp2_with fail
    refine (HA _ (HC.out.kept (HB.out _))).out.mono ?_
    rintro e w1 ⟨rfl, h1⟩
    go_wp2
    go_ret
    exact ⟨by rw [HQ.out]; rfl, (HB.out _).trans (h1.mono (by simp))⟩
  · have hd : decide ((l.length : Int) ≤ 16) = false := decide_eq_false (by omega)
    have HQ := Lib.hid (qRightB_long (l := l) (by omega))
    clear h16
    go_enter Try.func19, Try.ntmps19
    go_wp2_with fail
    go_ret
    exact ⟨by rw [HQ.out]; rfl, HB.out _⟩
set_option maxHeartbeats 1000000 in
theorem specQueueRight_any (a : Option Addr) (cap : Nat) (l : List (Int × ByteArray)) (w : World) (h : CansIn w a l) (hok : CansOk l) (hlen : l.length ≤ 1048576) :
    Calls Try.prog 20 #[.agg #[.slice a l.length cap]] w fun e w' => e = .returned (.bool (qRightB l)) ∧ Below w.heap.size w w' := by
  have hb0 := fun o : Obj => (Below.refl w.heap.size w).alloc (Nat.le_refl _) o
  have HB := Lib.hid hb0
  have HC := Lib.hid h
  clear hb0 h
  by_cases h16 : l.length ≤ 16
  · have hd : decide ((l.length : Int) ≤ 16) = true := decide_eq_true (by omega)
    have HQ := Lib.hid (qRightB_short h16)
    have HA := fun W hW => Lib.hid (specAll_any a cap l W hW hok hlen)
    clear h16
    go_enter Try.func20, Try.ntmps20
    go_wp2_with fail
    refine (HA _ (HC.out.kept (HB.out _))).out.mono ?_
    rintro e w1 ⟨rfl, h1⟩
    go_wp2
    go_ret
    exact ⟨by rw [HQ.out]; rfl, (HB.out _).trans (h1.mono (by simp))⟩
  · have hd : decide ((l.length : Int) ≤ 16) = false := decide_eq_false (by omega)
    have HQ := Lib.hid (qRightB_long (l := l) (by omega))
    clear h16
    go_enter Try.func20, Try.ntmps20
    go_wp2_with fail
    go_ret
    exact ⟨by rw [HQ.out]; rfl, HB.out _⟩

set_option maxHeartbeats 1000000 in
theorem waitingIn_any (v : Value) (hv : ∃ a n c, v = .slice a n c) (w : World) :
    Calls Try.prog 38 #[.agg #[v]] w fun e w' => e = .returned (.agg #[v]) ∧ Below w.heap.size w w' := by
  obtain ⟨a, n, c, rfl⟩ := hv
  go_enter Try.func38, Try.ntmps38
  go_wp2
  exact bodyPost_ret (v := .agg #[.slice a n c]) (by simp [results, Try.results38, go_sem]) rfl ⟨rfl, ((Below.refl _ _).alloc (Nat.le_refl _) _).alloc (by simp) _⟩
end Go.Proofs.Ytmfnbbjhaolhgaa
