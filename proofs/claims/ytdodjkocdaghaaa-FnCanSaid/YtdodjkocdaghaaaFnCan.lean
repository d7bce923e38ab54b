/- Of drawn frames: what a frame is about comes back from its number, and a frame from its bytes; of several the first one of the least number is told. For every two lists of bytes from which the inputs are drawn. -/
import Derived.Test.YtdodjkocdaghaaaRows
import Derived.Test.YtdodjkocdaghaaaDrawTop2
import Derived.Test.YtdodjkocdaghaaaFirst
import Derived.Test.YtdodjkocdaghaaaCanRead2
import Derived.Test.YtdodjkocdaghaaaIdBack
import Derived.WalkKit
import Derived.ProofKit
import Derived.OpenShut
import Derived.ShutString
import Derived.ChangeOld
import Derived.Below
namespace Go.Proofs.Ytdodjkocdaghaaa.fnCan
open Go.ChangeShapes Go.WideShapes Go.ChangeAt Go.RowKit
open Go.ChangeMaps (open_string shut_string)
set_option linter.unusedVariables false

theorem own : ownKnob Try.prog.godebug = none := by kernel_rfl
theorem laidOut : laidOutB Try.prog = true := by kernel_rfl

/-- WHAT THE WALK IS TOLD OF A SLICE OF INTEGERS THAT CAME IN: it is nil; or it leads to a row of 'cap' cells, the numbers 'zs' (the first 'len' are its elements, the rest its spare room), each fitting its kind. -/
def IsRow (k : IntKind) (w : World) (a : Option Addr) (len cap : Nat) (zs : List Int) : Prop :=
  (a = none ∧ len = 0 ∧ cap = 0 ∧ zs = []) ∨
  ∃ x, a = some x ∧ len ≤ cap ∧ cap ≤ maxLen ∧ zs.length = cap ∧ (∀ i, i < zs.length → w.cell? (x.add i) = some (.int k (zs.getD i 0))) ∧ ∀ n ∈ zs, (Lit.int k n).wf = true

theorem qcall {P : Program} {f : FuncId} {args : Array Value} {U W : World} {v : Value} (hW : Below U.heap.size U W) (h : Calls P f args W fun e w' => e = .returned v ∧ Below W.heap.size W w') :
    Calls P f args W fun e w' => e = .returned v ∧ Below U.heap.size U w' := h.mono fun _ _ ⟨e, hb⟩ => ⟨e, hW.trans (hb.mono hW.size)⟩
theorem qcall_same {P : Program} {f : FuncId} {args : Array Value} {U W : World} {v : Value} (hW : Below U.heap.size U W) (h : Calls P f args W fun e w' => e = .returned v ∧ W = w') :
    Calls P f args W fun e w' => e = .returned v ∧ Below U.heap.size U w' := h.mono fun _ _ ⟨e, hb⟩ => ⟨e, hb ▸ hW⟩
set_option maxRecDepth 100000 in
set_option maxHeartbeats 100000000 in
theorem walk (a0 : Option Addr) (len0 cap0 : Nat) (z0 : List Int) (a1 : Option Addr) (len1 cap1 : Nat) (z1 : List Int) (w : World) (w0 : IsRow .u8 w a0 len0 cap0 z0) (w1 : IsRow .u8 w a1 len1 cap1 z1) :
    Calls Try.prog 3 #[.slice a0 len0 cap0, .slice a1 len1 cap1] w fun e w' => e = .returned (.bool true) ∧ Below w.heap.size w w' := by
  obtain ⟨r0, b0⟩ := rowIn_mk w0
  obtain ⟨r1, b1⟩ := rowIn_mk w1
  clear w0 w1
  by_cases hbig : 1048576 < len0
  · have hd : decide (1048576 < (len0 : Int)) = true := by simp; omega
    go_enter Try.func3, Try.ntmps3
    go_wp2_with fail
    go_ret
    exact ⟨rfl, Below.refl _ _⟩
  have hd0 : decide (1048576 < (len0 : Int)) = false := by simp; omega
  by_cases hbig1 : 1048576 < len1
  · have hd : decide (1048576 < (len1 : Int)) = true := by simp; omega
    go_enter Try.func3, Try.ntmps3
    go_wp2_with fail
    go_ret
    exact ⟨rfl, Below.refl _ _⟩
  have hd1 : decide (1048576 < (len1 : Int)) = false := by simp; omega
  have R0 := Lib.hid r0
  have B0 := Lib.hid b0
  have R1 := Lib.hid r1
  have B1 := Lib.hid b1
  have l0 : len0 ≤ 1048576 := by omega
  have l1 : len1 ≤ 1048576 := by omega
  clear r0 b0 r1 b1 hbig hbig1
  have KP0 : ∀ U, Below w.heap.size w U → Hid (RowIn U a0 len0 z0 ∧ (0 < len0 → ∀ b o, a0 = some ⟨b, o, none⟩ → b < U.heap.size)) := fun U h => Lib.hid ⟨R0.out.kept h B0.out, fun q b o e => Nat.lt_of_lt_of_le (B0.out q b o e) h.size⟩
  have KP1 : ∀ U, Below w.heap.size w U → Hid (RowIn U a1 len1 z1 ∧ (0 < len1 → ∀ b o, a1 = some ⟨b, o, none⟩ → b < U.heap.size)) := fun U h => Lib.hid ⟨R1.out.kept h B1.out, fun q b o e => Nat.lt_of_lt_of_le (B1.out q b o e) h.size⟩
  have K0 := KP0 w (Below.refl _ _)
  go_enter Try.func3, Try.ntmps3
  go_wp2_with fail
  refine (drawIdNum_any K0.out.1 l0 K0.out.2).mono ?_
  rintro e u1 ⟨p, b, d, s, rfl, hp, hb, hd, hs, h1⟩
  have t1 : Below w.heap.size w u1 := h1
  have K1 := KP1 u1 t1
  go_wp2_with fail
  refine (drawIdOf_any K1.out.1 l1 K1.out.2).mono ?_
  rintro e u2 ⟨n, rfl, hn0, hn1, h2⟩
  have t2 : Below w.heap.size w u2 := t1.trans (h2.mono t1.size)
  go_wp2_with fail
  refine (implIdNum_any p b d s _).mono ?_
  rintro e u3 ⟨rfl, h3⟩
  obtain ⟨k, hk⟩ : ∃ k, idN p b d s = k := ⟨_, rfl⟩
  have HK := Lib.hid hk
  have t3 : Below w.heap.size w u3 := (t2.alloc t2.size _).trans (h3.mono (by have := t2.size; simp; omega))
  rw [hk]
  obtain ⟨ya, yb, yd, ys, yc, hy, hyc⟩ := idOfV_form n
  have HY := Lib.hid hy
  have HYC := Lib.hid hyc
  have H4 := fun W => Lib.hid (implIdOf_any n W (by omega) (by omega))
  have S4 := fun W => Lib.hid (specIdOf_any n W (by omega) (by omega))
  rw [hy] at H4 S4
  clear hk hy hyc
  go_wp2_with fail
  refine (H4 _).out.mono ?_
  rintro e u4 ⟨rfl, h4⟩
  have t4 : Below w.heap.size w u4 := t3.trans (h4.mono t3.size)
  have K4 := KP0 (u4.alloc (.cells #[.int .i64 ya, .int .i64 yb, .int .i64 yd, .int .i64 ys, .int .i64 yc] 29)) (t4.alloc t4.size _)
  go_wp2_with fail
  refine (drawCan_any K4.out.1 l0 K4.out.2).mono ?_
  rintro e u5 ⟨cn, cs, rfl, hcn, hcs, h5⟩
  have t5 : Below w.heap.size w u5 := (t4.alloc t4.size _).trans (h5.mono (by have := t4.size; simp; omega))
  have hcm : cs.size ≤ maxLen := by unfold maxLen; omega
  have HCM := Lib.hid hcm
  clear hcm
  go_wp2_with fail
  refine (implCanBytes_any cn cs _ (by omega) (by omega) HCM.out).mono ?_
  rintro e u6 ⟨rfl, h6⟩
  have t6 : Below w.heap.size w u6 := (t5.alloc t5.size _).trans (h6.mono (by have := t5.size; simp; omega))
  obtain ⟨tb, htb⟩ : ∃ tb : List UInt8, canBytesB cn cs = tb := ⟨_, rfl⟩
  have HTB := Lib.hid htb
  rw [htb]
  clear htb
  have K6 := KP1 u6 t6
  go_wp2_with fail
  refine (drawCanRead_any K6.out.1 l1 K6.out.2).mono ?_
  rintro e u7 ⟨ut, rfl, hut, h7⟩
  have t7 : Below w.heap.size w u7 := t6.trans (h7.mono t6.size)
  have hum : ut.size ≤ maxLen := by unfold maxLen; omega
  have HUM := Lib.hid hum
  clear hum
  obtain ⟨zn, zs, zc, hz⟩ : ∃ zn zs zc, canReadV ut = .agg #[.int .i64 zn, .string zs, .int .i64 zc] := by
    unfold canReadV canOutV
    split
    · exact ⟨_, _, _, rfl⟩
    split
    · exact ⟨_, _, _, rfl⟩
    split
    · exact ⟨_, _, _, rfl⟩
    · exact ⟨_, _, _, rfl⟩
  have HZ := Lib.hid hz
  have H8 := fun W => Lib.hid (implCanRead_any ut W HUM.out)
  have S8 := fun W => Lib.hid (specCanRead_any ut W HUM.out)
  rw [hz] at H8 S8
  clear hz
  go_wp2_with fail
  refine (H8 _).out.mono ?_
  rintro e u8 ⟨rfl, h8⟩
  have t8 : Below w.heap.size w u8 := t7.trans (h8.mono t7.size)
  have K8 := KP1 (u8.alloc (.cells #[.int .i64 zn, .string zs, .int .i64 zc] 37)) (t8.alloc t8.size _)
  go_wp2_with fail
  refine (drawFirst_any K8.out.1 l1 K8.out.2).mono ?_
  rintro e u9 ⟨la, lcap, l, rfl, hin, hok, hl4, h9⟩
  have t9 : Below w.heap.size w u9 := (t8.alloc t8.size _).trans (h9.mono (by have := t8.size; simp; omega))
  have HIN := Lib.hid hin
  have HOK := Lib.hid hok
  clear hin hok
  go_wp2_with fail
  refine (implFirst_any la lcap l _ HIN.out HOK.out (by omega)).mono ?_
  rintro e u10 ⟨rfl, h10⟩
  have t10 : Below w.heap.size w u10 := t9.trans (h10.mono t9.size)
  have K10 := KP0 u10 t10
  obtain ⟨f, hf⟩ : ∃ f, firstI l = f := ⟨_, rfl⟩
  have HF := Lib.hid hf
  rw [hf]
  clear hf
  go_wp2_with fail
  refine (drawBroad_any K10.out.1 l0 K10.out.2).mono ?_
  rintro e U ⟨q, rfl, hq0, hq1, h11⟩
  have tU : Below w.heap.size w U := t10.trans (h11.mono t10.size)
  have q10 : Below u9.heap.size u9 U := h10.trans (h11.mono h10.size)
  have q9 := h9.trans (q10.mono h9.size)
  have q7 := (h8.alloc h8.size (.cells #[.int .i64 zn, .string zs, .int .i64 zc] 37)).trans (q9.mono (by have := h8.size; simp; omega))
  have q6 := h7.trans (q7.mono h7.size)
  have q5 := h6.trans (q6.mono h6.size)
  have q5u := ((Below.refl u5.heap.size u5).alloc (Nat.le_refl _) (.cells #[.int .i64 cn, .string cs] 32)).trans (q5.mono (by simp))
  have q4 := h5.trans (q5u.mono h5.size)
  have q3 := (h4.alloc h4.size (.cells #[.int .i64 ya, .int .i64 yb, .int .i64 yd, .int .i64 ys, .int .i64 yc] 29)).trans (q4.mono (by have := h4.size; simp; omega))
  have q2 := h3.trans (q3.mono h3.size)
  have X0 : U.cell? ⟨u2.heap.size, 0, none⟩ = some (.int .i64 p) := (q2.cell (p := ⟨u2.heap.size, 0, none⟩) (by simp)).trans (by simp)
  have X1 : U.cell? ⟨u2.heap.size, 1, none⟩ = some (.int .i64 b) := (q2.cell (p := ⟨u2.heap.size, 1, none⟩) (by simp)).trans (by simp)
  have X2 : U.cell? ⟨u2.heap.size, 2, none⟩ = some (.int .i64 d) := (q2.cell (p := ⟨u2.heap.size, 2, none⟩) (by simp)).trans (by simp)
  have X3 : U.cell? ⟨u2.heap.size, 3, none⟩ = some (.int .i64 s) := (q2.cell (p := ⟨u2.heap.size, 3, none⟩) (by simp)).trans (by simp)
  have lX : u2.heap.size < U.heap.size := by have := q2.size; simp at this; omega
  have Y0 : U.cell? ⟨u4.heap.size, 0, none⟩ = some (.int .i64 ya) := (q4.cell (p := ⟨u4.heap.size, 0, none⟩) (by simp)).trans (by simp)
  have Y1 : U.cell? ⟨u4.heap.size, 1, none⟩ = some (.int .i64 yb) := (q4.cell (p := ⟨u4.heap.size, 1, none⟩) (by simp)).trans (by simp)
  have Y2 : U.cell? ⟨u4.heap.size, 2, none⟩ = some (.int .i64 yd) := (q4.cell (p := ⟨u4.heap.size, 2, none⟩) (by simp)).trans (by simp)
  have Y3 : U.cell? ⟨u4.heap.size, 3, none⟩ = some (.int .i64 ys) := (q4.cell (p := ⟨u4.heap.size, 3, none⟩) (by simp)).trans (by simp)
  have Y4 : U.cell? ⟨u4.heap.size, 4, none⟩ = some (.int .i64 yc) := (q4.cell (p := ⟨u4.heap.size, 4, none⟩) (by simp)).trans (by simp)
  have lY : u4.heap.size < U.heap.size := by have := q4.size; simp at this; omega
  have C0 : U.cell? ⟨u5.heap.size, 0, none⟩ = some (.int .i64 cn) := (q5.cell (p := ⟨u5.heap.size, 0, none⟩) (by simp)).trans (by simp)
  have C1 : U.cell? ⟨u5.heap.size, 1, none⟩ = some (.string cs) := (q5.cell (p := ⟨u5.heap.size, 1, none⟩) (by simp)).trans (by simp)
  have lC : u5.heap.size < U.heap.size := by have := q5.size; simp at this; omega
  have Z0 : U.cell? ⟨u8.heap.size, 0, none⟩ = some (.int .i64 zn) := (q9.cell (p := ⟨u8.heap.size, 0, none⟩) (by simp)).trans (by simp)
  have Z1 : U.cell? ⟨u8.heap.size, 1, none⟩ = some (.string zs) := (q9.cell (p := ⟨u8.heap.size, 1, none⟩) (by simp)).trans (by simp)
  have Z2 : U.cell? ⟨u8.heap.size, 2, none⟩ = some (.int .i64 zc) := (q9.cell (p := ⟨u8.heap.size, 2, none⟩) (by simp)).trans (by simp)
  have lZ : u8.heap.size < U.heap.size := by have := q9.size; simp at this; omega
  have HINU := Lib.hid (HIN.out.kept q10)
  clear K0 K1 K4 K6 K8 K10 t1 t2 t3 t4 t5 t6 t7 t8 t9 t10 h1 h2 h3 h4 h5 h6 h7 h8 h9 h10 h11 q10 q9 q7 q6 q5 q5u q4 q3 q2 KP0 KP1 H4 H8 HIN
  have HS1 := fun W => Lib.hid (specIdNum_any p b d s W)
  have HS6 := fun W => Lib.hid (specCanBytes_any cn cs W (by omega) (by omega) HCM.out)
  have HSF := fun W (h : Below U.heap.size U W) => Lib.hid (specFirst_any la lcap l W (HINU.out.kept h) HOK.out (by omega))
  have HIB := fun W => Lib.hid (implBroad_any q W)
  have HSB := fun W => Lib.hid (specBroad_any q W)
  have HIR := fun W => Lib.hid (implIdRight_any p b d s W)
  have HSR := fun W => Lib.hid (specIdRight_any p b d s W)
  have HIC := fun W => Lib.hid (implCanRight_any cn cs W (by omega) (by omega) HCM.out)
  have HSC := fun W => Lib.hid (specCanRight_any cn cs W (by omega) (by omega) HCM.out)
  rw [HK.out] at HS1
  rw [HTB.out] at HS6
  rw [HF.out] at HSF
  have HM1 := Lib.hid (fun (h : 0 ≤ k) => (congrArg idOfV HK.out).symm.trans (idOf_back (idN_pos (HK.out.symm ▸ h))))
  have HM2 := Lib.hid (fun (h : yc = 0) => idNum_back HY.out h)
  have HM3 := Lib.hid (fun (h : tb ≠ []) => (congrArg (fun x => canReadV ⟨x.toArray⟩) HTB.out).symm.trans (read_back (canBytes_yes (HTB.out.symm ▸ h))))
  have HM4 := Lib.hid (fun (h : zc = 0) => read_fwd HZ.out h)
  have HM5 := Lib.hid (fun (h : 0 ≤ f) => first_least HF.out h)
  have HKR : k ≤ 536870911 := HK.out ▸ idN_hi p b d s
  have HTS : Hid ((ByteArray.mk tb.toArray).size ≤ maxLen) := Lib.hid (by
    have := canBytes_size cn cs
    rw [HTB.out] at this
    unfold maxLen
    omega)
  generalize broadB q = vb at *
  generalize idB p b d s = vi at *
  generalize canB cn cs = vc at *
  go_wp2_with fail
  refine wp_region_quiet (C := fun W => Below U.heap.size U W) (by kernel_rfl) (by kernel_rfl) ((Below.refl _ _).drew) ?_
  dsimp only
  go_big_quiet_want; go_big_quiet_op; first | go_big_quiet_on | (refine ⟨_, fun _ _ => rfl, ?_⟩; go_big_quiet_on)
  go_big_quiet_want; refine ⟨.agg #[.int .i64 p, .int .i64 b, .int .i64 d, .int .i64 s], fun W hW => (by have y0 := (hW.cell (p := ⟨u2.heap.size, 0, none⟩) lX).trans X0; have y1 := (hW.cell (p := ⟨u2.heap.size, 1, none⟩) lX).trans X1; have y2 := (hW.cell (p := ⟨u2.heap.size, 2, none⟩) lX).trans X2; have y3 := (hW.cell (p := ⟨u2.heap.size, 3, none⟩) lX).trans X3; simp [Oper.quietAt, Oper.quietUpon, go_sem, y0, y1, y2, y3]), ?_⟩; simp only [Act.put, List.setIfInBounds_toArray, List.set_cons_zero, List.set_cons_succ]; go_big_quiet_on
  go_big_quiet_want; go_big_quiet_op; refine ⟨_, fun W hW => qcall hW (HS1 W).out, ?_⟩; go_big_quiet_on
  go_big_quiet_want; go_big_quiet_op; first | go_big_quiet_on | (refine ⟨_, fun _ _ => rfl, ?_⟩; go_big_quiet_on)
  go_big_quiet_want; go_big_quiet_op; first | go_big_quiet_on | (refine ⟨_, fun _ _ => rfl, ?_⟩; go_big_quiet_on)
  go_big_quiet_want; refine ⟨.agg #[.int .i64 ya, .int .i64 yb, .int .i64 yd, .int .i64 ys, .int .i64 yc], fun W hW => (by have y0 := (hW.cell (p := ⟨u4.heap.size, 0, none⟩) lY).trans Y0; have y1 := (hW.cell (p := ⟨u4.heap.size, 1, none⟩) lY).trans Y1; have y2 := (hW.cell (p := ⟨u4.heap.size, 2, none⟩) lY).trans Y2; have y3 := (hW.cell (p := ⟨u4.heap.size, 3, none⟩) lY).trans Y3; have y4 := (hW.cell (p := ⟨u4.heap.size, 4, none⟩) lY).trans Y4; simp [Oper.quietAt, Oper.quietUpon, go_sem, y0, y1, y2, y3, y4]), ?_⟩; simp only [Act.put, List.setIfInBounds_toArray, List.set_cons_zero, List.set_cons_succ]; go_big_quiet_on
  go_big_quiet_want; go_big_quiet_op; first | go_big_quiet_on | (refine ⟨_, fun _ _ => rfl, ?_⟩; go_big_quiet_on)
  go_big_quiet_want; go_big_quiet_op; refine ⟨_, fun W hW => qcall hW (S4 W).out, ?_⟩; go_big_quiet_on
  go_big_quiet_want; go_big_quiet_op; first | go_big_quiet_on | (refine ⟨_, fun _ _ => rfl, ?_⟩; go_big_quiet_on)
  go_big_quiet_want; go_big_quiet_op; first | go_big_quiet_on | (refine ⟨_, fun _ _ => rfl, ?_⟩; go_big_quiet_on)
  go_big_quiet_want; go_big_quiet_op; first | go_big_quiet_on | (refine ⟨_, fun _ _ => rfl, ?_⟩; go_big_quiet_on)
  go_big_quiet_want; go_big_quiet_op; first | go_big_quiet_on | (refine ⟨_, fun _ _ => rfl, ?_⟩; go_big_quiet_on)
  go_big_quiet_want; refine ⟨.agg #[.int .i64 cn, .string cs], fun W hW => (by have y0 := (hW.cell (p := ⟨u5.heap.size, 0, none⟩) lC).trans C0; have y1 := (hW.cell (p := ⟨u5.heap.size, 1, none⟩) lC).trans C1; simp [Oper.quietAt, Oper.quietUpon, go_sem, y0, y1]), ?_⟩; simp only [Act.put, List.setIfInBounds_toArray, List.set_cons_zero, List.set_cons_succ]; go_big_quiet_on
  go_big_quiet_want; go_big_quiet_op; refine ⟨_, fun W hW => qcall hW (HS6 W).out, ?_⟩; go_big_quiet_on
  go_big_quiet_want; go_big_quiet_op; first | go_big_quiet_on | (refine ⟨_, fun _ _ => rfl, ?_⟩; go_big_quiet_on)
  go_big_quiet_want; go_big_quiet_op; first | go_big_quiet_on | (refine ⟨_, fun _ _ => rfl, ?_⟩; go_big_quiet_on)
  go_big_quiet_want; go_big_quiet_op; first | go_big_quiet_on | (refine ⟨_, fun _ _ => rfl, ?_⟩; go_big_quiet_on)
  go_big_quiet_want; refine ⟨.agg #[.int .i64 zn, .string zs, .int .i64 zc], fun W hW => (by have y0 := (hW.cell (p := ⟨u8.heap.size, 0, none⟩) lZ).trans Z0; have y1 := (hW.cell (p := ⟨u8.heap.size, 1, none⟩) lZ).trans Z1; have y2 := (hW.cell (p := ⟨u8.heap.size, 2, none⟩) lZ).trans Z2; simp [Oper.quietAt, Oper.quietUpon, go_sem, y0, y1, y2]), ?_⟩; simp only [Act.put, List.setIfInBounds_toArray, List.set_cons_zero, List.set_cons_succ]; go_big_quiet_on
  go_big_quiet_want; go_big_quiet_op; first | go_big_quiet_on | (refine ⟨_, fun _ _ => rfl, ?_⟩; go_big_quiet_on)
  go_big_quiet_want; go_big_quiet_op; refine ⟨_, fun W hW => qcall hW (S8 W).out, ?_⟩; go_big_quiet_on
  go_big_quiet_want; go_big_quiet_op; first | go_big_quiet_on | (refine ⟨_, fun _ _ => rfl, ?_⟩; go_big_quiet_on)
  go_big_quiet_want; go_big_quiet_op; first | go_big_quiet_on | (refine ⟨_, fun _ _ => rfl, ?_⟩; go_big_quiet_on)
  go_big_quiet_want; go_big_quiet_op; first | go_big_quiet_on | (refine ⟨_, fun _ _ => rfl, ?_⟩; go_big_quiet_on)
  go_big_quiet_want; go_big_quiet_op; first | go_big_quiet_on | (refine ⟨_, fun _ _ => rfl, ?_⟩; go_big_quiet_on)
  go_big_quiet_want; go_big_quiet_op; first | go_big_quiet_on | (refine ⟨_, fun _ _ => rfl, ?_⟩; go_big_quiet_on)
  go_big_quiet_want; go_big_quiet_op; refine ⟨_, fun W hW => qcall hW (HSF W hW).out, ?_⟩; go_big_quiet_on
  go_big_quiet_want; go_big_quiet_op; first | go_big_quiet_on | (refine ⟨_, fun _ _ => rfl, ?_⟩; go_big_quiet_on)
  go_big_quiet_want; go_big_quiet_op; first | go_big_quiet_on | (refine ⟨_, fun _ _ => rfl, ?_⟩; go_big_quiet_on)
  go_big_quiet_want; go_big_quiet_op; first | go_big_quiet_on | (refine ⟨_, fun _ _ => rfl, ?_⟩; go_big_quiet_on)
  go_big_quiet_want; go_big_quiet_op; first | go_big_quiet_on | (refine ⟨_, fun _ _ => rfl, ?_⟩; go_big_quiet_on)
  go_big_quiet_want; go_big_quiet_op; refine ⟨_, fun W hW => qcall_same hW (HIB W).out, ?_⟩; go_big_quiet_on
  go_big_quiet_want; go_big_quiet_op; first | go_big_quiet_on | (refine ⟨_, fun _ _ => rfl, ?_⟩; go_big_quiet_on)
  go_big_quiet_want; go_big_quiet_op; refine ⟨_, fun W hW => qcall_same hW (HSB W).out, ?_⟩; go_big_quiet_on
  go_big_quiet_want; go_big_quiet_op; first | go_big_quiet_on | (refine ⟨_, fun _ _ => rfl, ?_⟩; go_big_quiet_on)
  go_big_quiet_want; go_big_quiet_op; first | go_big_quiet_on | (refine ⟨_, fun _ _ => rfl, ?_⟩; go_big_quiet_on)
  go_big_quiet_want; go_big_quiet_op; first | go_big_quiet_on | (refine ⟨_, fun _ _ => rfl, ?_⟩; go_big_quiet_on)
  go_big_quiet_want; refine ⟨.agg #[.int .i64 p, .int .i64 b, .int .i64 d, .int .i64 s], fun W hW => (by have y0 := (hW.cell (p := ⟨u2.heap.size, 0, none⟩) lX).trans X0; have y1 := (hW.cell (p := ⟨u2.heap.size, 1, none⟩) lX).trans X1; have y2 := (hW.cell (p := ⟨u2.heap.size, 2, none⟩) lX).trans X2; have y3 := (hW.cell (p := ⟨u2.heap.size, 3, none⟩) lX).trans X3; simp [Oper.quietAt, Oper.quietUpon, go_sem, y0, y1, y2, y3]), ?_⟩; simp only [Act.put, List.setIfInBounds_toArray, List.set_cons_zero, List.set_cons_succ]; go_big_quiet_on
  go_big_quiet_want; go_big_quiet_op; refine ⟨_, fun W hW => qcall hW (HIR W).out, ?_⟩; go_big_quiet_on
  go_big_quiet_want; refine ⟨.agg #[.int .i64 p, .int .i64 b, .int .i64 d, .int .i64 s], fun W hW => (by have y0 := (hW.cell (p := ⟨u2.heap.size, 0, none⟩) lX).trans X0; have y1 := (hW.cell (p := ⟨u2.heap.size, 1, none⟩) lX).trans X1; have y2 := (hW.cell (p := ⟨u2.heap.size, 2, none⟩) lX).trans X2; have y3 := (hW.cell (p := ⟨u2.heap.size, 3, none⟩) lX).trans X3; simp [Oper.quietAt, Oper.quietUpon, go_sem, y0, y1, y2, y3]), ?_⟩; simp only [Act.put, List.setIfInBounds_toArray, List.set_cons_zero, List.set_cons_succ]; go_big_quiet_on
  go_big_quiet_want; go_big_quiet_op; refine ⟨_, fun W hW => qcall hW (HSR W).out, ?_⟩; go_big_quiet_on
  go_big_quiet_want; go_big_quiet_op; first | go_big_quiet_on | (refine ⟨_, fun _ _ => rfl, ?_⟩; go_big_quiet_on)
  go_big_quiet_want; go_big_quiet_op; first | go_big_quiet_on | (refine ⟨_, fun _ _ => rfl, ?_⟩; go_big_quiet_on)
  go_big_quiet_want; go_big_quiet_op; first | go_big_quiet_on | (refine ⟨_, fun _ _ => rfl, ?_⟩; go_big_quiet_on)
  go_big_quiet_want; refine ⟨.agg #[.int .i64 cn, .string cs], fun W hW => (by have y0 := (hW.cell (p := ⟨u5.heap.size, 0, none⟩) lC).trans C0; have y1 := (hW.cell (p := ⟨u5.heap.size, 1, none⟩) lC).trans C1; simp [Oper.quietAt, Oper.quietUpon, go_sem, y0, y1]), ?_⟩; simp only [Act.put, List.setIfInBounds_toArray, List.set_cons_zero, List.set_cons_succ]; go_big_quiet_on
  go_big_quiet_want; go_big_quiet_op; refine ⟨_, fun W hW => qcall hW (HIC W).out, ?_⟩; go_big_quiet_on
  go_big_quiet_want; refine ⟨.agg #[.int .i64 cn, .string cs], fun W hW => (by have y0 := (hW.cell (p := ⟨u5.heap.size, 0, none⟩) lC).trans C0; have y1 := (hW.cell (p := ⟨u5.heap.size, 1, none⟩) lC).trans C1; simp [Oper.quietAt, Oper.quietUpon, go_sem, y0, y1]), ?_⟩; simp only [Act.put, List.setIfInBounds_toArray, List.set_cons_zero, List.set_cons_succ]; go_big_quiet_on
  go_big_quiet_want; go_big_quiet_op; refine ⟨_, fun W hW => qcall hW (HSC W).out, ?_⟩; go_big_quiet_on
  go_big_quiet_want; go_big_quiet_op; first | go_big_quiet_on | (refine ⟨_, fun _ _ => rfl, ?_⟩; go_big_quiet_on)
  go_big_quiet_want; go_big_quiet_op; first | go_big_quiet_on | (refine ⟨_, fun _ _ => rfl, ?_⟩; go_big_quiet_on)
  refine wpQuiet_nil ?_
  intro V hV
  clear HS1 S4 HS6 S8 HSF HIB HSB HIR HSR HIC HSC
  go_wp2_with fail
  go_cut [139] from 96 to 139 (fun s139 wx => s139 = .bool false ∧ Below U.heap.size U wx)
  case first =>
    by_cases ck : 0 ≤ k
    · have dk : decide (0 ≤ k) = true := decide_eq_true ck
      have HI1 := fun W => Lib.hid (implIdOf_any k W (by omega) (by omega))
      rw [HM1.out ck] at HI1
      by_cases cy : yc = 0
      · have dy : (yc == 0) = true := beq_iff_eq.2 cy
        have HI2 := fun W => Lib.hid (implIdNum_any ya yb yd ys W)
        rw [HM2.out cy] at HI2
        rcases tb with _ | ⟨tx, ts⟩
        · by_cases cz : zc = 0
          · obtain ⟨z1, z2, z3⟩ := HM4.out cz
            have HI4 := fun W => Lib.hid (implCanBytes_any zn zs W (by omega) (by omega) (Nat.le_trans z3 HUM.out))
            rw [z1] at HI4
            have dz : (zc == 0) = true := beq_iff_eq.2 cz
            clear z1 z2 z3
            refine wp_region_quiet (C := fun W => Below U.heap.size U W) (by kernel_rfl) (by kernel_rfl) hV.drew ?_
            dsimp only
            go_big_quiet_want; go_big_quiet_op; first | go_big_quiet_on | (refine ⟨_, fun _ _ => rfl, ?_⟩; go_big_quiet_on)
            go_big_quiet_want; go_big_quiet_op; first | go_big_quiet_on | (refine ⟨_, fun _ _ => rfl, ?_⟩; go_big_quiet_on)
            go_big_quiet_want; go_big_quiet_op; first | go_big_quiet_on | (refine ⟨_, fun _ _ => rfl, ?_⟩; go_big_quiet_on)
            first | go_big_quiet_skip | (go_big_quiet_want; go_big_quiet_op; first | go_big_quiet_on | (refine ⟨_, fun _ _ => rfl, ?_⟩; go_big_quiet_on))
            first | go_big_quiet_skip | (go_big_quiet_want; go_big_quiet_op; refine ⟨_, fun W hW => qcall hW (HI1 W).out, ?_⟩; go_big_quiet_on)
            first | go_big_quiet_skip | (go_big_quiet_want; refine ⟨.agg #[.int .i64 p, .int .i64 b, .int .i64 d, .int .i64 s], fun W hW => (by have y0 := (hW.cell (p := ⟨u2.heap.size, 0, none⟩) lX).trans X0; have y1 := (hW.cell (p := ⟨u2.heap.size, 1, none⟩) lX).trans X1; have y2 := (hW.cell (p := ⟨u2.heap.size, 2, none⟩) lX).trans X2; have y3 := (hW.cell (p := ⟨u2.heap.size, 3, none⟩) lX).trans X3; simp [Oper.quietAt, Oper.quietUpon, go_sem, y0, y1, y2, y3]), ?_⟩; simp only [Act.put, List.setIfInBounds_toArray, List.set_cons_zero, List.set_cons_succ]; go_big_quiet_on)
            first | go_big_quiet_skip | (go_big_quiet_want; go_big_quiet_op; first | go_big_quiet_on | (refine ⟨_, fun _ _ => rfl, ?_⟩; go_big_quiet_on))
            first | go_big_quiet_skip | (go_big_quiet_want; go_big_quiet_op; first | go_big_quiet_on | (refine ⟨_, fun _ _ => rfl, ?_⟩; go_big_quiet_on))
            go_big_quiet_want; go_big_quiet_op; first | go_big_quiet_on | (refine ⟨_, fun _ _ => rfl, ?_⟩; go_big_quiet_on)
            go_big_quiet_want; go_big_quiet_op; first | go_big_quiet_on | (refine ⟨_, fun _ _ => rfl, ?_⟩; go_big_quiet_on)
            first | go_big_quiet_skip | (go_big_quiet_want; go_big_quiet_op; first | go_big_quiet_on | (refine ⟨_, fun _ _ => rfl, ?_⟩; go_big_quiet_on))
            first | go_big_quiet_skip | (go_big_quiet_want; refine ⟨.int .i64 yc, fun W hW => (by have y4 := (hW.cell (p := ⟨u4.heap.size, 4, none⟩) lY).trans Y4; simp [Oper.quietAt, Oper.quietUpon, go_sem, y4]), ?_⟩; simp only [Act.put, List.setIfInBounds_toArray, List.set_cons_zero, List.set_cons_succ]; go_big_quiet_on)
            first | go_big_quiet_skip | (go_big_quiet_want; go_big_quiet_op; first | go_big_quiet_on | (refine ⟨_, fun _ _ => rfl, ?_⟩; go_big_quiet_on))
            first | go_big_quiet_skip | (go_big_quiet_want; go_big_quiet_op; first | go_big_quiet_on | (refine ⟨_, fun _ _ => rfl, ?_⟩; go_big_quiet_on))
            first | go_big_quiet_skip | (go_big_quiet_want; go_big_quiet_op; first | go_big_quiet_on | (refine ⟨_, fun _ _ => rfl, ?_⟩; go_big_quiet_on))
            first | go_big_quiet_skip | (go_big_quiet_want; refine ⟨.agg #[.int .i64 ya, .int .i64 yb, .int .i64 yd, .int .i64 ys], fun W hW => (by have y0 := (hW.cell (p := ⟨u4.heap.size, 0, none⟩) lY).trans Y0; have y1 := (hW.cell (p := ⟨u4.heap.size, 1, none⟩) lY).trans Y1; have y2 := (hW.cell (p := ⟨u4.heap.size, 2, none⟩) lY).trans Y2; have y3 := (hW.cell (p := ⟨u4.heap.size, 3, none⟩) lY).trans Y3; simp [Oper.quietAt, Oper.quietUpon, go_sem, y0, y1, y2, y3]), ?_⟩; simp only [Act.put, List.setIfInBounds_toArray, List.set_cons_zero, List.set_cons_succ]; go_big_quiet_on)
            first | go_big_quiet_skip | (go_big_quiet_want; go_big_quiet_op; refine ⟨_, fun W hW => qcall hW (HI2 W).out, ?_⟩; go_big_quiet_on)
            first | go_big_quiet_skip | (go_big_quiet_want; go_big_quiet_op; first | go_big_quiet_on | (refine ⟨_, fun _ _ => rfl, ?_⟩; go_big_quiet_on))
            first | go_big_quiet_skip | (go_big_quiet_want; go_big_quiet_op; first | go_big_quiet_on | (refine ⟨_, fun _ _ => rfl, ?_⟩; go_big_quiet_on))
            first | go_big_quiet_skip | (go_big_quiet_want; go_big_quiet_op; first | go_big_quiet_on | (refine ⟨_, fun _ _ => rfl, ?_⟩; go_big_quiet_on))
            go_big_quiet_want; go_big_quiet_op; first | go_big_quiet_on | (refine ⟨_, fun _ _ => rfl, ?_⟩; go_big_quiet_on)
            go_big_quiet_want; go_big_quiet_op; first | go_big_quiet_on | (refine ⟨_, fun _ _ => rfl, ?_⟩; go_big_quiet_on)
            first | go_big_quiet_skip | (go_big_quiet_want; go_big_quiet_op; first | go_big_quiet_on | (refine ⟨_, fun _ _ => rfl, ?_⟩; go_big_quiet_on))
            first | go_big_quiet_skip | (go_big_quiet_want; go_big_quiet_op; first | go_big_quiet_on | (refine ⟨_, fun _ _ => rfl, ?_⟩; go_big_quiet_on))
            first | go_big_quiet_skip | (go_big_quiet_want; go_big_quiet_op; first | go_big_quiet_on | (refine ⟨_, fun _ _ => rfl, ?_⟩; go_big_quiet_on))
            first | go_big_quiet_skip | (go_big_quiet_want; go_big_quiet_op; first | go_big_quiet_on | (refine ⟨_, fun _ _ => rfl, ?_⟩; go_big_quiet_on))
            first | go_big_quiet_skip | (go_big_quiet_want; go_big_quiet_op; refine ⟨_, fun W hW => qcall hW (HI3 W).out, ?_⟩; go_big_quiet_on)
            first | go_big_quiet_skip | (go_big_quiet_want; refine ⟨.agg #[.int .i64 cn, .string cs], fun W hW => (by have y0 := (hW.cell (p := ⟨u5.heap.size, 0, none⟩) lC).trans C0; have y1 := (hW.cell (p := ⟨u5.heap.size, 1, none⟩) lC).trans C1; simp [Oper.quietAt, Oper.quietUpon, go_sem, y0, y1]), ?_⟩; simp only [Act.put, List.setIfInBounds_toArray, List.set_cons_zero, List.set_cons_succ]; go_big_quiet_on)
            first | go_big_quiet_skip | (go_big_quiet_want; go_big_quiet_op; first | go_big_quiet_on | (refine ⟨_, fun _ _ => rfl, ?_⟩; go_big_quiet_on))
            first | go_big_quiet_skip | (go_big_quiet_want; go_big_quiet_op; first | go_big_quiet_on | (refine ⟨_, fun _ _ => rfl, ?_⟩; go_big_quiet_on))
            first | go_big_quiet_skip | (go_big_quiet_want; go_big_quiet_op; first | go_big_quiet_on | (refine ⟨_, fun _ _ => rfl, ?_⟩; go_big_quiet_on))
            go_big_quiet_want; go_big_quiet_op; first | go_big_quiet_on | (refine ⟨_, fun _ _ => rfl, ?_⟩; go_big_quiet_on)
            go_big_quiet_want; go_big_quiet_op; first | go_big_quiet_on | (refine ⟨_, fun _ _ => rfl, ?_⟩; go_big_quiet_on)
            first | go_big_quiet_skip | (go_big_quiet_want; go_big_quiet_op; first | go_big_quiet_on | (refine ⟨_, fun _ _ => rfl, ?_⟩; go_big_quiet_on))
            first | go_big_quiet_skip | (go_big_quiet_want; refine ⟨.int .i64 zc, fun W hW => (by have y2 := (hW.cell (p := ⟨u8.heap.size, 2, none⟩) lZ).trans Z2; simp [Oper.quietAt, Oper.quietUpon, go_sem, y2]), ?_⟩; simp only [Act.put, List.setIfInBounds_toArray, List.set_cons_zero, List.set_cons_succ]; go_big_quiet_on)
            first | go_big_quiet_skip | (go_big_quiet_want; go_big_quiet_op; first | go_big_quiet_on | (refine ⟨_, fun _ _ => rfl, ?_⟩; go_big_quiet_on))
            first | go_big_quiet_skip | (go_big_quiet_want; go_big_quiet_op; first | go_big_quiet_on | (refine ⟨_, fun _ _ => rfl, ?_⟩; go_big_quiet_on))
            first | go_big_quiet_skip | (go_big_quiet_want; go_big_quiet_op; first | go_big_quiet_on | (refine ⟨_, fun _ _ => rfl, ?_⟩; go_big_quiet_on))
            first | go_big_quiet_skip | (go_big_quiet_want; refine ⟨.agg #[.int .i64 zn, .string zs], fun W hW => (by have y0 := (hW.cell (p := ⟨u8.heap.size, 0, none⟩) lZ).trans Z0; have y1 := (hW.cell (p := ⟨u8.heap.size, 1, none⟩) lZ).trans Z1; simp [Oper.quietAt, Oper.quietUpon, go_sem, y0, y1]), ?_⟩; simp only [Act.put, List.setIfInBounds_toArray, List.set_cons_zero, List.set_cons_succ]; go_big_quiet_on)
            first | go_big_quiet_skip | (go_big_quiet_want; go_big_quiet_op; refine ⟨_, fun W hW => qcall hW (HI4 W).out, ?_⟩; go_big_quiet_on)
            first | go_big_quiet_skip | (go_big_quiet_want; go_big_quiet_op; first | go_big_quiet_on | (refine ⟨_, fun _ _ => rfl, ?_⟩; go_big_quiet_on))
            first | go_big_quiet_skip | (go_big_quiet_want; go_big_quiet_op; first | go_big_quiet_on | (refine ⟨_, fun _ _ => rfl, ?_⟩; go_big_quiet_on))
            first | go_big_quiet_skip | (go_big_quiet_want; go_big_quiet_op; first | go_big_quiet_on | (refine ⟨_, fun _ _ => rfl, ?_⟩; go_big_quiet_on))
            go_big_quiet_want; go_big_quiet_op; first | go_big_quiet_on | (refine ⟨_, fun _ _ => rfl, ?_⟩; go_big_quiet_on)
            refine wpQuiet_nil ?_
            intro V2 hV2
            clear ck dk cy dy cz dz
            go_wp2_with fail
            go_meet
            exact ⟨rfl, hV2⟩
          · have dz : (zc == 0) = false := beq_eq_false_iff_ne.2 cz
            refine wp_region_quiet (C := fun W => Below U.heap.size U W) (by kernel_rfl) (by kernel_rfl) hV.drew ?_
            dsimp only
            go_big_quiet_want; go_big_quiet_op; first | go_big_quiet_on | (refine ⟨_, fun _ _ => rfl, ?_⟩; go_big_quiet_on)
            go_big_quiet_want; go_big_quiet_op; first | go_big_quiet_on | (refine ⟨_, fun _ _ => rfl, ?_⟩; go_big_quiet_on)
            go_big_quiet_want; go_big_quiet_op; first | go_big_quiet_on | (refine ⟨_, fun _ _ => rfl, ?_⟩; go_big_quiet_on)
            first | go_big_quiet_skip | (go_big_quiet_want; go_big_quiet_op; first | go_big_quiet_on | (refine ⟨_, fun _ _ => rfl, ?_⟩; go_big_quiet_on))
            first | go_big_quiet_skip | (go_big_quiet_want; go_big_quiet_op; refine ⟨_, fun W hW => qcall hW (HI1 W).out, ?_⟩; go_big_quiet_on)
            first | go_big_quiet_skip | (go_big_quiet_want; refine ⟨.agg #[.int .i64 p, .int .i64 b, .int .i64 d, .int .i64 s], fun W hW => (by have y0 := (hW.cell (p := ⟨u2.heap.size, 0, none⟩) lX).trans X0; have y1 := (hW.cell (p := ⟨u2.heap.size, 1, none⟩) lX).trans X1; have y2 := (hW.cell (p := ⟨u2.heap.size, 2, none⟩) lX).trans X2; have y3 := (hW.cell (p := ⟨u2.heap.size, 3, none⟩) lX).trans X3; simp [Oper.quietAt, Oper.quietUpon, go_sem, y0, y1, y2, y3]), ?_⟩; simp only [Act.put, List.setIfInBounds_toArray, List.set_cons_zero, List.set_cons_succ]; go_big_quiet_on)
            first | go_big_quiet_skip | (go_big_quiet_want; go_big_quiet_op; first | go_big_quiet_on | (refine ⟨_, fun _ _ => rfl, ?_⟩; go_big_quiet_on))
            first | go_big_quiet_skip | (go_big_quiet_want; go_big_quiet_op; first | go_big_quiet_on | (refine ⟨_, fun _ _ => rfl, ?_⟩; go_big_quiet_on))
            go_big_quiet_want; go_big_quiet_op; first | go_big_quiet_on | (refine ⟨_, fun _ _ => rfl, ?_⟩; go_big_quiet_on)
            go_big_quiet_want; go_big_quiet_op; first | go_big_quiet_on | (refine ⟨_, fun _ _ => rfl, ?_⟩; go_big_quiet_on)
            first | go_big_quiet_skip | (go_big_quiet_want; go_big_quiet_op; first | go_big_quiet_on | (refine ⟨_, fun _ _ => rfl, ?_⟩; go_big_quiet_on))
            first | go_big_quiet_skip | (go_big_quiet_want; refine ⟨.int .i64 yc, fun W hW => (by have y4 := (hW.cell (p := ⟨u4.heap.size, 4, none⟩) lY).trans Y4; simp [Oper.quietAt, Oper.quietUpon, go_sem, y4]), ?_⟩; simp only [Act.put, List.setIfInBounds_toArray, List.set_cons_zero, List.set_cons_succ]; go_big_quiet_on)
            first | go_big_quiet_skip | (go_big_quiet_want; go_big_quiet_op; first | go_big_quiet_on | (refine ⟨_, fun _ _ => rfl, ?_⟩; go_big_quiet_on))
            first | go_big_quiet_skip | (go_big_quiet_want; go_big_quiet_op; first | go_big_quiet_on | (refine ⟨_, fun _ _ => rfl, ?_⟩; go_big_quiet_on))
            first | go_big_quiet_skip | (go_big_quiet_want; go_big_quiet_op; first | go_big_quiet_on | (refine ⟨_, fun _ _ => rfl, ?_⟩; go_big_quiet_on))
            first | go_big_quiet_skip | (go_big_quiet_want; refine ⟨.agg #[.int .i64 ya, .int .i64 yb, .int .i64 yd, .int .i64 ys], fun W hW => (by have y0 := (hW.cell (p := ⟨u4.heap.size, 0, none⟩) lY).trans Y0; have y1 := (hW.cell (p := ⟨u4.heap.size, 1, none⟩) lY).trans Y1; have y2 := (hW.cell (p := ⟨u4.heap.size, 2, none⟩) lY).trans Y2; have y3 := (hW.cell (p := ⟨u4.heap.size, 3, none⟩) lY).trans Y3; simp [Oper.quietAt, Oper.quietUpon, go_sem, y0, y1, y2, y3]), ?_⟩; simp only [Act.put, List.setIfInBounds_toArray, List.set_cons_zero, List.set_cons_succ]; go_big_quiet_on)
            first | go_big_quiet_skip | (go_big_quiet_want; go_big_quiet_op; refine ⟨_, fun W hW => qcall hW (HI2 W).out, ?_⟩; go_big_quiet_on)
            first | go_big_quiet_skip | (go_big_quiet_want; go_big_quiet_op; first | go_big_quiet_on | (refine ⟨_, fun _ _ => rfl, ?_⟩; go_big_quiet_on))
            first | go_big_quiet_skip | (go_big_quiet_want; go_big_quiet_op; first | go_big_quiet_on | (refine ⟨_, fun _ _ => rfl, ?_⟩; go_big_quiet_on))
            first | go_big_quiet_skip | (go_big_quiet_want; go_big_quiet_op; first | go_big_quiet_on | (refine ⟨_, fun _ _ => rfl, ?_⟩; go_big_quiet_on))
            go_big_quiet_want; go_big_quiet_op; first | go_big_quiet_on | (refine ⟨_, fun _ _ => rfl, ?_⟩; go_big_quiet_on)
            go_big_quiet_want; go_big_quiet_op; first | go_big_quiet_on | (refine ⟨_, fun _ _ => rfl, ?_⟩; go_big_quiet_on)
            first | go_big_quiet_skip | (go_big_quiet_want; go_big_quiet_op; first | go_big_quiet_on | (refine ⟨_, fun _ _ => rfl, ?_⟩; go_big_quiet_on))
            first | go_big_quiet_skip | (go_big_quiet_want; go_big_quiet_op; first | go_big_quiet_on | (refine ⟨_, fun _ _ => rfl, ?_⟩; go_big_quiet_on))
            first | go_big_quiet_skip | (go_big_quiet_want; go_big_quiet_op; first | go_big_quiet_on | (refine ⟨_, fun _ _ => rfl, ?_⟩; go_big_quiet_on))
            first | go_big_quiet_skip | (go_big_quiet_want; go_big_quiet_op; first | go_big_quiet_on | (refine ⟨_, fun _ _ => rfl, ?_⟩; go_big_quiet_on))
            first | go_big_quiet_skip | (go_big_quiet_want; go_big_quiet_op; refine ⟨_, fun W hW => qcall hW (HI3 W).out, ?_⟩; go_big_quiet_on)
            first | go_big_quiet_skip | (go_big_quiet_want; refine ⟨.agg #[.int .i64 cn, .string cs], fun W hW => (by have y0 := (hW.cell (p := ⟨u5.heap.size, 0, none⟩) lC).trans C0; have y1 := (hW.cell (p := ⟨u5.heap.size, 1, none⟩) lC).trans C1; simp [Oper.quietAt, Oper.quietUpon, go_sem, y0, y1]), ?_⟩; simp only [Act.put, List.setIfInBounds_toArray, List.set_cons_zero, List.set_cons_succ]; go_big_quiet_on)
            first | go_big_quiet_skip | (go_big_quiet_want; go_big_quiet_op; first | go_big_quiet_on | (refine ⟨_, fun _ _ => rfl, ?_⟩; go_big_quiet_on))
            first | go_big_quiet_skip | (go_big_quiet_want; go_big_quiet_op; first | go_big_quiet_on | (refine ⟨_, fun _ _ => rfl, ?_⟩; go_big_quiet_on))
            first | go_big_quiet_skip | (go_big_quiet_want; go_big_quiet_op; first | go_big_quiet_on | (refine ⟨_, fun _ _ => rfl, ?_⟩; go_big_quiet_on))
            go_big_quiet_want; go_big_quiet_op; first | go_big_quiet_on | (refine ⟨_, fun _ _ => rfl, ?_⟩; go_big_quiet_on)
            go_big_quiet_want; go_big_quiet_op; first | go_big_quiet_on | (refine ⟨_, fun _ _ => rfl, ?_⟩; go_big_quiet_on)
            first | go_big_quiet_skip | (go_big_quiet_want; go_big_quiet_op; first | go_big_quiet_on | (refine ⟨_, fun _ _ => rfl, ?_⟩; go_big_quiet_on))
            first | go_big_quiet_skip | (go_big_quiet_want; refine ⟨.int .i64 zc, fun W hW => (by have y2 := (hW.cell (p := ⟨u8.heap.size, 2, none⟩) lZ).trans Z2; simp [Oper.quietAt, Oper.quietUpon, go_sem, y2]), ?_⟩; simp only [Act.put, List.setIfInBounds_toArray, List.set_cons_zero, List.set_cons_succ]; go_big_quiet_on)
            first | go_big_quiet_skip | (go_big_quiet_want; go_big_quiet_op; first | go_big_quiet_on | (refine ⟨_, fun _ _ => rfl, ?_⟩; go_big_quiet_on))
            first | go_big_quiet_skip | (go_big_quiet_want; go_big_quiet_op; first | go_big_quiet_on | (refine ⟨_, fun _ _ => rfl, ?_⟩; go_big_quiet_on))
            first | go_big_quiet_skip | (go_big_quiet_want; go_big_quiet_op; first | go_big_quiet_on | (refine ⟨_, fun _ _ => rfl, ?_⟩; go_big_quiet_on))
            first | go_big_quiet_skip | (go_big_quiet_want; refine ⟨.agg #[.int .i64 zn, .string zs], fun W hW => (by have y0 := (hW.cell (p := ⟨u8.heap.size, 0, none⟩) lZ).trans Z0; have y1 := (hW.cell (p := ⟨u8.heap.size, 1, none⟩) lZ).trans Z1; simp [Oper.quietAt, Oper.quietUpon, go_sem, y0, y1]), ?_⟩; simp only [Act.put, List.setIfInBounds_toArray, List.set_cons_zero, List.set_cons_succ]; go_big_quiet_on)
            first | go_big_quiet_skip | (go_big_quiet_want; go_big_quiet_op; refine ⟨_, fun W hW => qcall hW (HI4 W).out, ?_⟩; go_big_quiet_on)
            first | go_big_quiet_skip | (go_big_quiet_want; go_big_quiet_op; first | go_big_quiet_on | (refine ⟨_, fun _ _ => rfl, ?_⟩; go_big_quiet_on))
            first | go_big_quiet_skip | (go_big_quiet_want; go_big_quiet_op; first | go_big_quiet_on | (refine ⟨_, fun _ _ => rfl, ?_⟩; go_big_quiet_on))
            first | go_big_quiet_skip | (go_big_quiet_want; go_big_quiet_op; first | go_big_quiet_on | (refine ⟨_, fun _ _ => rfl, ?_⟩; go_big_quiet_on))
            go_big_quiet_want; go_big_quiet_op; first | go_big_quiet_on | (refine ⟨_, fun _ _ => rfl, ?_⟩; go_big_quiet_on)
            refine wpQuiet_nil ?_
            intro V2 hV2
            clear ck dk cy dy cz dz
            go_wp2_with fail
            go_meet
            exact ⟨rfl, hV2⟩
        · have HI3 := fun W => Lib.hid (implCanRead_any ⟨(tx :: ts).toArray⟩ W HTS.out)
          rw [HM3.out (by simp)] at HI3
          by_cases cz : zc = 0
          · obtain ⟨z1, z2, z3⟩ := HM4.out cz
            have HI4 := fun W => Lib.hid (implCanBytes_any zn zs W (by omega) (by omega) (Nat.le_trans z3 HUM.out))
            rw [z1] at HI4
            have dz : (zc == 0) = true := beq_iff_eq.2 cz
            clear z1 z2 z3
            refine wp_region_quiet (C := fun W => Below U.heap.size U W) (by kernel_rfl) (by kernel_rfl) hV.drew ?_
            dsimp only
            go_big_quiet_want; go_big_quiet_op; first | go_big_quiet_on | (refine ⟨_, fun _ _ => rfl, ?_⟩; go_big_quiet_on)
            go_big_quiet_want; go_big_quiet_op; first | go_big_quiet_on | (refine ⟨_, fun _ _ => rfl, ?_⟩; go_big_quiet_on)
            go_big_quiet_want; go_big_quiet_op; first | go_big_quiet_on | (refine ⟨_, fun _ _ => rfl, ?_⟩; go_big_quiet_on)
            first | go_big_quiet_skip | (go_big_quiet_want; go_big_quiet_op; first | go_big_quiet_on | (refine ⟨_, fun _ _ => rfl, ?_⟩; go_big_quiet_on))
            first | go_big_quiet_skip | (go_big_quiet_want; go_big_quiet_op; refine ⟨_, fun W hW => qcall hW (HI1 W).out, ?_⟩; go_big_quiet_on)
            first | go_big_quiet_skip | (go_big_quiet_want; refine ⟨.agg #[.int .i64 p, .int .i64 b, .int .i64 d, .int .i64 s], fun W hW => (by have y0 := (hW.cell (p := ⟨u2.heap.size, 0, none⟩) lX).trans X0; have y1 := (hW.cell (p := ⟨u2.heap.size, 1, none⟩) lX).trans X1; have y2 := (hW.cell (p := ⟨u2.heap.size, 2, none⟩) lX).trans X2; have y3 := (hW.cell (p := ⟨u2.heap.size, 3, none⟩) lX).trans X3; simp [Oper.quietAt, Oper.quietUpon, go_sem, y0, y1, y2, y3]), ?_⟩; simp only [Act.put, List.setIfInBounds_toArray, List.set_cons_zero, List.set_cons_succ]; go_big_quiet_on)
            first | go_big_quiet_skip | (go_big_quiet_want; go_big_quiet_op; first | go_big_quiet_on | (refine ⟨_, fun _ _ => rfl, ?_⟩; go_big_quiet_on))
            first | go_big_quiet_skip | (go_big_quiet_want; go_big_quiet_op; first | go_big_quiet_on | (refine ⟨_, fun _ _ => rfl, ?_⟩; go_big_quiet_on))
            go_big_quiet_want; go_big_quiet_op; first | go_big_quiet_on | (refine ⟨_, fun _ _ => rfl, ?_⟩; go_big_quiet_on)
            go_big_quiet_want; go_big_quiet_op; first | go_big_quiet_on | (refine ⟨_, fun _ _ => rfl, ?_⟩; go_big_quiet_on)
            first | go_big_quiet_skip | (go_big_quiet_want; go_big_quiet_op; first | go_big_quiet_on | (refine ⟨_, fun _ _ => rfl, ?_⟩; go_big_quiet_on))
            first | go_big_quiet_skip | (go_big_quiet_want; refine ⟨.int .i64 yc, fun W hW => (by have y4 := (hW.cell (p := ⟨u4.heap.size, 4, none⟩) lY).trans Y4; simp [Oper.quietAt, Oper.quietUpon, go_sem, y4]), ?_⟩; simp only [Act.put, List.setIfInBounds_toArray, List.set_cons_zero, List.set_cons_succ]; go_big_quiet_on)
            first | go_big_quiet_skip | (go_big_quiet_want; go_big_quiet_op; first | go_big_quiet_on | (refine ⟨_, fun _ _ => rfl, ?_⟩; go_big_quiet_on))
            first | go_big_quiet_skip | (go_big_quiet_want; go_big_quiet_op; first | go_big_quiet_on | (refine ⟨_, fun _ _ => rfl, ?_⟩; go_big_quiet_on))
            first | go_big_quiet_skip | (go_big_quiet_want; go_big_quiet_op; first | go_big_quiet_on | (refine ⟨_, fun _ _ => rfl, ?_⟩; go_big_quiet_on))
            first | go_big_quiet_skip | (go_big_quiet_want; refine ⟨.agg #[.int .i64 ya, .int .i64 yb, .int .i64 yd, .int .i64 ys], fun W hW => (by have y0 := (hW.cell (p := ⟨u4.heap.size, 0, none⟩) lY).trans Y0; have y1 := (hW.cell (p := ⟨u4.heap.size, 1, none⟩) lY).trans Y1; have y2 := (hW.cell (p := ⟨u4.heap.size, 2, none⟩) lY).trans Y2; have y3 := (hW.cell (p := ⟨u4.heap.size, 3, none⟩) lY).trans Y3; simp [Oper.quietAt, Oper.quietUpon, go_sem, y0, y1, y2, y3]), ?_⟩; simp only [Act.put, List.setIfInBounds_toArray, List.set_cons_zero, List.set_cons_succ]; go_big_quiet_on)
            first | go_big_quiet_skip | (go_big_quiet_want; go_big_quiet_op; refine ⟨_, fun W hW => qcall hW (HI2 W).out, ?_⟩; go_big_quiet_on)
            first | go_big_quiet_skip | (go_big_quiet_want; go_big_quiet_op; first | go_big_quiet_on | (refine ⟨_, fun _ _ => rfl, ?_⟩; go_big_quiet_on))
            first | go_big_quiet_skip | (go_big_quiet_want; go_big_quiet_op; first | go_big_quiet_on | (refine ⟨_, fun _ _ => rfl, ?_⟩; go_big_quiet_on))
            first | go_big_quiet_skip | (go_big_quiet_want; go_big_quiet_op; first | go_big_quiet_on | (refine ⟨_, fun _ _ => rfl, ?_⟩; go_big_quiet_on))
            go_big_quiet_want; go_big_quiet_op; first | go_big_quiet_on | (refine ⟨_, fun _ _ => rfl, ?_⟩; go_big_quiet_on)
            go_big_quiet_want; go_big_quiet_op; first | go_big_quiet_on | (refine ⟨_, fun _ _ => rfl, ?_⟩; go_big_quiet_on)
            first | go_big_quiet_skip | (go_big_quiet_want; go_big_quiet_op; first | go_big_quiet_on | (refine ⟨_, fun _ _ => rfl, ?_⟩; go_big_quiet_on))
            first | go_big_quiet_skip | (go_big_quiet_want; go_big_quiet_op; first | go_big_quiet_on | (refine ⟨_, fun _ _ => rfl, ?_⟩; go_big_quiet_on))
            first | go_big_quiet_skip | (go_big_quiet_want; go_big_quiet_op; first | go_big_quiet_on | (refine ⟨_, fun _ _ => rfl, ?_⟩; go_big_quiet_on))
            first | go_big_quiet_skip | (go_big_quiet_want; go_big_quiet_op; first | go_big_quiet_on | (refine ⟨_, fun _ _ => rfl, ?_⟩; go_big_quiet_on))
            first | go_big_quiet_skip | (go_big_quiet_want; go_big_quiet_op; refine ⟨_, fun W hW => qcall hW (HI3 W).out, ?_⟩; go_big_quiet_on)
            first | go_big_quiet_skip | (go_big_quiet_want; refine ⟨.agg #[.int .i64 cn, .string cs], fun W hW => (by have y0 := (hW.cell (p := ⟨u5.heap.size, 0, none⟩) lC).trans C0; have y1 := (hW.cell (p := ⟨u5.heap.size, 1, none⟩) lC).trans C1; simp [Oper.quietAt, Oper.quietUpon, go_sem, y0, y1]), ?_⟩; simp only [Act.put, List.setIfInBounds_toArray, List.set_cons_zero, List.set_cons_succ]; go_big_quiet_on)
            first | go_big_quiet_skip | (go_big_quiet_want; go_big_quiet_op; first | go_big_quiet_on | (refine ⟨_, fun _ _ => rfl, ?_⟩; go_big_quiet_on))
            first | go_big_quiet_skip | (go_big_quiet_want; go_big_quiet_op; first | go_big_quiet_on | (refine ⟨_, fun _ _ => rfl, ?_⟩; go_big_quiet_on))
            first | go_big_quiet_skip | (go_big_quiet_want; go_big_quiet_op; first | go_big_quiet_on | (refine ⟨_, fun _ _ => rfl, ?_⟩; go_big_quiet_on))
            go_big_quiet_want; go_big_quiet_op; first | go_big_quiet_on | (refine ⟨_, fun _ _ => rfl, ?_⟩; go_big_quiet_on)
            go_big_quiet_want; go_big_quiet_op; first | go_big_quiet_on | (refine ⟨_, fun _ _ => rfl, ?_⟩; go_big_quiet_on)
            first | go_big_quiet_skip | (go_big_quiet_want; go_big_quiet_op; first | go_big_quiet_on | (refine ⟨_, fun _ _ => rfl, ?_⟩; go_big_quiet_on))
            first | go_big_quiet_skip | (go_big_quiet_want; refine ⟨.int .i64 zc, fun W hW => (by have y2 := (hW.cell (p := ⟨u8.heap.size, 2, none⟩) lZ).trans Z2; simp [Oper.quietAt, Oper.quietUpon, go_sem, y2]), ?_⟩; simp only [Act.put, List.setIfInBounds_toArray, List.set_cons_zero, List.set_cons_succ]; go_big_quiet_on)
            first | go_big_quiet_skip | (go_big_quiet_want; go_big_quiet_op; first | go_big_quiet_on | (refine ⟨_, fun _ _ => rfl, ?_⟩; go_big_quiet_on))
            first | go_big_quiet_skip | (go_big_quiet_want; go_big_quiet_op; first | go_big_quiet_on | (refine ⟨_, fun _ _ => rfl, ?_⟩; go_big_quiet_on))
            first | go_big_quiet_skip | (go_big_quiet_want; go_big_quiet_op; first | go_big_quiet_on | (refine ⟨_, fun _ _ => rfl, ?_⟩; go_big_quiet_on))
            first | go_big_quiet_skip | (go_big_quiet_want; refine ⟨.agg #[.int .i64 zn, .string zs], fun W hW => (by have y0 := (hW.cell (p := ⟨u8.heap.size, 0, none⟩) lZ).trans Z0; have y1 := (hW.cell (p := ⟨u8.heap.size, 1, none⟩) lZ).trans Z1; simp [Oper.quietAt, Oper.quietUpon, go_sem, y0, y1]), ?_⟩; simp only [Act.put, List.setIfInBounds_toArray, List.set_cons_zero, List.set_cons_succ]; go_big_quiet_on)
            first | go_big_quiet_skip | (go_big_quiet_want; go_big_quiet_op; refine ⟨_, fun W hW => qcall hW (HI4 W).out, ?_⟩; go_big_quiet_on)
            first | go_big_quiet_skip | (go_big_quiet_want; go_big_quiet_op; first | go_big_quiet_on | (refine ⟨_, fun _ _ => rfl, ?_⟩; go_big_quiet_on))
            first | go_big_quiet_skip | (go_big_quiet_want; go_big_quiet_op; first | go_big_quiet_on | (refine ⟨_, fun _ _ => rfl, ?_⟩; go_big_quiet_on))
            first | go_big_quiet_skip | (go_big_quiet_want; go_big_quiet_op; first | go_big_quiet_on | (refine ⟨_, fun _ _ => rfl, ?_⟩; go_big_quiet_on))
            go_big_quiet_want; go_big_quiet_op; first | go_big_quiet_on | (refine ⟨_, fun _ _ => rfl, ?_⟩; go_big_quiet_on)
            refine wpQuiet_nil ?_
            intro V2 hV2
            clear ck dk cy dy cz dz
            go_wp2_with fail
            go_meet
            exact ⟨rfl, hV2⟩
          · have dz : (zc == 0) = false := beq_eq_false_iff_ne.2 cz
            refine wp_region_quiet (C := fun W => Below U.heap.size U W) (by kernel_rfl) (by kernel_rfl) hV.drew ?_
            dsimp only
            go_big_quiet_want; go_big_quiet_op; first | go_big_quiet_on | (refine ⟨_, fun _ _ => rfl, ?_⟩; go_big_quiet_on)
            go_big_quiet_want; go_big_quiet_op; first | go_big_quiet_on | (refine ⟨_, fun _ _ => rfl, ?_⟩; go_big_quiet_on)
            go_big_quiet_want; go_big_quiet_op; first | go_big_quiet_on | (refine ⟨_, fun _ _ => rfl, ?_⟩; go_big_quiet_on)
            first | go_big_quiet_skip | (go_big_quiet_want; go_big_quiet_op; first | go_big_quiet_on | (refine ⟨_, fun _ _ => rfl, ?_⟩; go_big_quiet_on))
            first | go_big_quiet_skip | (go_big_quiet_want; go_big_quiet_op; refine ⟨_, fun W hW => qcall hW (HI1 W).out, ?_⟩; go_big_quiet_on)
            first | go_big_quiet_skip | (go_big_quiet_want; refine ⟨.agg #[.int .i64 p, .int .i64 b, .int .i64 d, .int .i64 s], fun W hW => (by have y0 := (hW.cell (p := ⟨u2.heap.size, 0, none⟩) lX).trans X0; have y1 := (hW.cell (p := ⟨u2.heap.size, 1, none⟩) lX).trans X1; have y2 := (hW.cell (p := ⟨u2.heap.size, 2, none⟩) lX).trans X2; have y3 := (hW.cell (p := ⟨u2.heap.size, 3, none⟩) lX).trans X3; simp [Oper.quietAt, Oper.quietUpon, go_sem, y0, y1, y2, y3]), ?_⟩; simp only [Act.put, List.setIfInBounds_toArray, List.set_cons_zero, List.set_cons_succ]; go_big_quiet_on)
            first | go_big_quiet_skip | (go_big_quiet_want; go_big_quiet_op; first | go_big_quiet_on | (refine ⟨_, fun _ _ => rfl, ?_⟩; go_big_quiet_on))
            first | go_big_quiet_skip | (go_big_quiet_want; go_big_quiet_op; first | go_big_quiet_on | (refine ⟨_, fun _ _ => rfl, ?_⟩; go_big_quiet_on))
            go_big_quiet_want; go_big_quiet_op; first | go_big_quiet_on | (refine ⟨_, fun _ _ => rfl, ?_⟩; go_big_quiet_on)
            go_big_quiet_want; go_big_quiet_op; first | go_big_quiet_on | (refine ⟨_, fun _ _ => rfl, ?_⟩; go_big_quiet_on)
            first | go_big_quiet_skip | (go_big_quiet_want; go_big_quiet_op; first | go_big_quiet_on | (refine ⟨_, fun _ _ => rfl, ?_⟩; go_big_quiet_on))
            first | go_big_quiet_skip | (go_big_quiet_want; refine ⟨.int .i64 yc, fun W hW => (by have y4 := (hW.cell (p := ⟨u4.heap.size, 4, none⟩) lY).trans Y4; simp [Oper.quietAt, Oper.quietUpon, go_sem, y4]), ?_⟩; simp only [Act.put, List.setIfInBounds_toArray, List.set_cons_zero, List.set_cons_succ]; go_big_quiet_on)
            first | go_big_quiet_skip | (go_big_quiet_want; go_big_quiet_op; first | go_big_quiet_on | (refine ⟨_, fun _ _ => rfl, ?_⟩; go_big_quiet_on))
            first | go_big_quiet_skip | (go_big_quiet_want; go_big_quiet_op; first | go_big_quiet_on | (refine ⟨_, fun _ _ => rfl, ?_⟩; go_big_quiet_on))
            first | go_big_quiet_skip | (go_big_quiet_want; go_big_quiet_op; first | go_big_quiet_on | (refine ⟨_, fun _ _ => rfl, ?_⟩; go_big_quiet_on))
            first | go_big_quiet_skip | (go_big_quiet_want; refine ⟨.agg #[.int .i64 ya, .int .i64 yb, .int .i64 yd, .int .i64 ys], fun W hW => (by have y0 := (hW.cell (p := ⟨u4.heap.size, 0, none⟩) lY).trans Y0; have y1 := (hW.cell (p := ⟨u4.heap.size, 1, none⟩) lY).trans Y1; have y2 := (hW.cell (p := ⟨u4.heap.size, 2, none⟩) lY).trans Y2; have y3 := (hW.cell (p := ⟨u4.heap.size, 3, none⟩) lY).trans Y3; simp [Oper.quietAt, Oper.quietUpon, go_sem, y0, y1, y2, y3]), ?_⟩; simp only [Act.put, List.setIfInBounds_toArray, List.set_cons_zero, List.set_cons_succ]; go_big_quiet_on)
            first | go_big_quiet_skip | (go_big_quiet_want; go_big_quiet_op; refine ⟨_, fun W hW => qcall hW (HI2 W).out, ?_⟩; go_big_quiet_on)
            first | go_big_quiet_skip | (go_big_quiet_want; go_big_quiet_op; first | go_big_quiet_on | (refine ⟨_, fun _ _ => rfl, ?_⟩; go_big_quiet_on))
            first | go_big_quiet_skip | (go_big_quiet_want; go_big_quiet_op; first | go_big_quiet_on | (refine ⟨_, fun _ _ => rfl, ?_⟩; go_big_quiet_on))
            first | go_big_quiet_skip | (go_big_quiet_want; go_big_quiet_op; first | go_big_quiet_on | (refine ⟨_, fun _ _ => rfl, ?_⟩; go_big_quiet_on))
            go_big_quiet_want; go_big_quiet_op; first | go_big_quiet_on | (refine ⟨_, fun _ _ => rfl, ?_⟩; go_big_quiet_on)
            go_big_quiet_want; go_big_quiet_op; first | go_big_quiet_on | (refine ⟨_, fun _ _ => rfl, ?_⟩; go_big_quiet_on)
            first | go_big_quiet_skip | (go_big_quiet_want; go_big_quiet_op; first | go_big_quiet_on | (refine ⟨_, fun _ _ => rfl, ?_⟩; go_big_quiet_on))
            first | go_big_quiet_skip | (go_big_quiet_want; go_big_quiet_op; first | go_big_quiet_on | (refine ⟨_, fun _ _ => rfl, ?_⟩; go_big_quiet_on))
            first | go_big_quiet_skip | (go_big_quiet_want; go_big_quiet_op; first | go_big_quiet_on | (refine ⟨_, fun _ _ => rfl, ?_⟩; go_big_quiet_on))
            first | go_big_quiet_skip | (go_big_quiet_want; go_big_quiet_op; first | go_big_quiet_on | (refine ⟨_, fun _ _ => rfl, ?_⟩; go_big_quiet_on))
            first | go_big_quiet_skip | (go_big_quiet_want; go_big_quiet_op; refine ⟨_, fun W hW => qcall hW (HI3 W).out, ?_⟩; go_big_quiet_on)
            first | go_big_quiet_skip | (go_big_quiet_want; refine ⟨.agg #[.int .i64 cn, .string cs], fun W hW => (by have y0 := (hW.cell (p := ⟨u5.heap.size, 0, none⟩) lC).trans C0; have y1 := (hW.cell (p := ⟨u5.heap.size, 1, none⟩) lC).trans C1; simp [Oper.quietAt, Oper.quietUpon, go_sem, y0, y1]), ?_⟩; simp only [Act.put, List.setIfInBounds_toArray, List.set_cons_zero, List.set_cons_succ]; go_big_quiet_on)
            first | go_big_quiet_skip | (go_big_quiet_want; go_big_quiet_op; first | go_big_quiet_on | (refine ⟨_, fun _ _ => rfl, ?_⟩; go_big_quiet_on))
            first | go_big_quiet_skip | (go_big_quiet_want; go_big_quiet_op; first | go_big_quiet_on | (refine ⟨_, fun _ _ => rfl, ?_⟩; go_big_quiet_on))
            first | go_big_quiet_skip | (go_big_quiet_want; go_big_quiet_op; first | go_big_quiet_on | (refine ⟨_, fun _ _ => rfl, ?_⟩; go_big_quiet_on))
            go_big_quiet_want; go_big_quiet_op; first | go_big_quiet_on | (refine ⟨_, fun _ _ => rfl, ?_⟩; go_big_quiet_on)
            go_big_quiet_want; go_big_quiet_op; first | go_big_quiet_on | (refine ⟨_, fun _ _ => rfl, ?_⟩; go_big_quiet_on)
            first | go_big_quiet_skip | (go_big_quiet_want; go_big_quiet_op; first | go_big_quiet_on | (refine ⟨_, fun _ _ => rfl, ?_⟩; go_big_quiet_on))
            first | go_big_quiet_skip | (go_big_quiet_want; refine ⟨.int .i64 zc, fun W hW => (by have y2 := (hW.cell (p := ⟨u8.heap.size, 2, none⟩) lZ).trans Z2; simp [Oper.quietAt, Oper.quietUpon, go_sem, y2]), ?_⟩; simp only [Act.put, List.setIfInBounds_toArray, List.set_cons_zero, List.set_cons_succ]; go_big_quiet_on)
            first | go_big_quiet_skip | (go_big_quiet_want; go_big_quiet_op; first | go_big_quiet_on | (refine ⟨_, fun _ _ => rfl, ?_⟩; go_big_quiet_on))
            first | go_big_quiet_skip | (go_big_quiet_want; go_big_quiet_op; first | go_big_quiet_on | (refine ⟨_, fun _ _ => rfl, ?_⟩; go_big_quiet_on))
            first | go_big_quiet_skip | (go_big_quiet_want; go_big_quiet_op; first | go_big_quiet_on | (refine ⟨_, fun _ _ => rfl, ?_⟩; go_big_quiet_on))
            first | go_big_quiet_skip | (go_big_quiet_want; refine ⟨.agg #[.int .i64 zn, .string zs], fun W hW => (by have y0 := (hW.cell (p := ⟨u8.heap.size, 0, none⟩) lZ).trans Z0; have y1 := (hW.cell (p := ⟨u8.heap.size, 1, none⟩) lZ).trans Z1; simp [Oper.quietAt, Oper.quietUpon, go_sem, y0, y1]), ?_⟩; simp only [Act.put, List.setIfInBounds_toArray, List.set_cons_zero, List.set_cons_succ]; go_big_quiet_on)
            first | go_big_quiet_skip | (go_big_quiet_want; go_big_quiet_op; refine ⟨_, fun W hW => qcall hW (HI4 W).out, ?_⟩; go_big_quiet_on)
            first | go_big_quiet_skip | (go_big_quiet_want; go_big_quiet_op; first | go_big_quiet_on | (refine ⟨_, fun _ _ => rfl, ?_⟩; go_big_quiet_on))
            first | go_big_quiet_skip | (go_big_quiet_want; go_big_quiet_op; first | go_big_quiet_on | (refine ⟨_, fun _ _ => rfl, ?_⟩; go_big_quiet_on))
            first | go_big_quiet_skip | (go_big_quiet_want; go_big_quiet_op; first | go_big_quiet_on | (refine ⟨_, fun _ _ => rfl, ?_⟩; go_big_quiet_on))
            go_big_quiet_want; go_big_quiet_op; first | go_big_quiet_on | (refine ⟨_, fun _ _ => rfl, ?_⟩; go_big_quiet_on)
            refine wpQuiet_nil ?_
            intro V2 hV2
            clear ck dk cy dy cz dz
            go_wp2_with fail
            go_meet
            exact ⟨rfl, hV2⟩
      · have dy : (yc == 0) = false := beq_eq_false_iff_ne.2 cy
        rcases tb with _ | ⟨tx, ts⟩
        · by_cases cz : zc = 0
          · obtain ⟨z1, z2, z3⟩ := HM4.out cz
            have HI4 := fun W => Lib.hid (implCanBytes_any zn zs W (by omega) (by omega) (Nat.le_trans z3 HUM.out))
            rw [z1] at HI4
            have dz : (zc == 0) = true := beq_iff_eq.2 cz
            clear z1 z2 z3
            refine wp_region_quiet (C := fun W => Below U.heap.size U W) (by kernel_rfl) (by kernel_rfl) hV.drew ?_
            dsimp only
            go_big_quiet_want; go_big_quiet_op; first | go_big_quiet_on | (refine ⟨_, fun _ _ => rfl, ?_⟩; go_big_quiet_on)
            go_big_quiet_want; go_big_quiet_op; first | go_big_quiet_on | (refine ⟨_, fun _ _ => rfl, ?_⟩; go_big_quiet_on)
            go_big_quiet_want; go_big_quiet_op; first | go_big_quiet_on | (refine ⟨_, fun _ _ => rfl, ?_⟩; go_big_quiet_on)
            first | go_big_quiet_skip | (go_big_quiet_want; go_big_quiet_op; first | go_big_quiet_on | (refine ⟨_, fun _ _ => rfl, ?_⟩; go_big_quiet_on))
            first | go_big_quiet_skip | (go_big_quiet_want; go_big_quiet_op; refine ⟨_, fun W hW => qcall hW (HI1 W).out, ?_⟩; go_big_quiet_on)
            first | go_big_quiet_skip | (go_big_quiet_want; refine ⟨.agg #[.int .i64 p, .int .i64 b, .int .i64 d, .int .i64 s], fun W hW => (by have y0 := (hW.cell (p := ⟨u2.heap.size, 0, none⟩) lX).trans X0; have y1 := (hW.cell (p := ⟨u2.heap.size, 1, none⟩) lX).trans X1; have y2 := (hW.cell (p := ⟨u2.heap.size, 2, none⟩) lX).trans X2; have y3 := (hW.cell (p := ⟨u2.heap.size, 3, none⟩) lX).trans X3; simp [Oper.quietAt, Oper.quietUpon, go_sem, y0, y1, y2, y3]), ?_⟩; simp only [Act.put, List.setIfInBounds_toArray, List.set_cons_zero, List.set_cons_succ]; go_big_quiet_on)
            first | go_big_quiet_skip | (go_big_quiet_want; go_big_quiet_op; first | go_big_quiet_on | (refine ⟨_, fun _ _ => rfl, ?_⟩; go_big_quiet_on))
            first | go_big_quiet_skip | (go_big_quiet_want; go_big_quiet_op; first | go_big_quiet_on | (refine ⟨_, fun _ _ => rfl, ?_⟩; go_big_quiet_on))
            go_big_quiet_want; go_big_quiet_op; first | go_big_quiet_on | (refine ⟨_, fun _ _ => rfl, ?_⟩; go_big_quiet_on)
            go_big_quiet_want; go_big_quiet_op; first | go_big_quiet_on | (refine ⟨_, fun _ _ => rfl, ?_⟩; go_big_quiet_on)
            first | go_big_quiet_skip | (go_big_quiet_want; go_big_quiet_op; first | go_big_quiet_on | (refine ⟨_, fun _ _ => rfl, ?_⟩; go_big_quiet_on))
            first | go_big_quiet_skip | (go_big_quiet_want; refine ⟨.int .i64 yc, fun W hW => (by have y4 := (hW.cell (p := ⟨u4.heap.size, 4, none⟩) lY).trans Y4; simp [Oper.quietAt, Oper.quietUpon, go_sem, y4]), ?_⟩; simp only [Act.put, List.setIfInBounds_toArray, List.set_cons_zero, List.set_cons_succ]; go_big_quiet_on)
            first | go_big_quiet_skip | (go_big_quiet_want; go_big_quiet_op; first | go_big_quiet_on | (refine ⟨_, fun _ _ => rfl, ?_⟩; go_big_quiet_on))
            first | go_big_quiet_skip | (go_big_quiet_want; go_big_quiet_op; first | go_big_quiet_on | (refine ⟨_, fun _ _ => rfl, ?_⟩; go_big_quiet_on))
            first | go_big_quiet_skip | (go_big_quiet_want; go_big_quiet_op; first | go_big_quiet_on | (refine ⟨_, fun _ _ => rfl, ?_⟩; go_big_quiet_on))
            first | go_big_quiet_skip | (go_big_quiet_want; refine ⟨.agg #[.int .i64 ya, .int .i64 yb, .int .i64 yd, .int .i64 ys], fun W hW => (by have y0 := (hW.cell (p := ⟨u4.heap.size, 0, none⟩) lY).trans Y0; have y1 := (hW.cell (p := ⟨u4.heap.size, 1, none⟩) lY).trans Y1; have y2 := (hW.cell (p := ⟨u4.heap.size, 2, none⟩) lY).trans Y2; have y3 := (hW.cell (p := ⟨u4.heap.size, 3, none⟩) lY).trans Y3; simp [Oper.quietAt, Oper.quietUpon, go_sem, y0, y1, y2, y3]), ?_⟩; simp only [Act.put, List.setIfInBounds_toArray, List.set_cons_zero, List.set_cons_succ]; go_big_quiet_on)
            first | go_big_quiet_skip | (go_big_quiet_want; go_big_quiet_op; refine ⟨_, fun W hW => qcall hW (HI2 W).out, ?_⟩; go_big_quiet_on)
            first | go_big_quiet_skip | (go_big_quiet_want; go_big_quiet_op; first | go_big_quiet_on | (refine ⟨_, fun _ _ => rfl, ?_⟩; go_big_quiet_on))
            first | go_big_quiet_skip | (go_big_quiet_want; go_big_quiet_op; first | go_big_quiet_on | (refine ⟨_, fun _ _ => rfl, ?_⟩; go_big_quiet_on))
            first | go_big_quiet_skip | (go_big_quiet_want; go_big_quiet_op; first | go_big_quiet_on | (refine ⟨_, fun _ _ => rfl, ?_⟩; go_big_quiet_on))
            go_big_quiet_want; go_big_quiet_op; first | go_big_quiet_on | (refine ⟨_, fun _ _ => rfl, ?_⟩; go_big_quiet_on)
            go_big_quiet_want; go_big_quiet_op; first | go_big_quiet_on | (refine ⟨_, fun _ _ => rfl, ?_⟩; go_big_quiet_on)
            first | go_big_quiet_skip | (go_big_quiet_want; go_big_quiet_op; first | go_big_quiet_on | (refine ⟨_, fun _ _ => rfl, ?_⟩; go_big_quiet_on))
            first | go_big_quiet_skip | (go_big_quiet_want; go_big_quiet_op; first | go_big_quiet_on | (refine ⟨_, fun _ _ => rfl, ?_⟩; go_big_quiet_on))
            first | go_big_quiet_skip | (go_big_quiet_want; go_big_quiet_op; first | go_big_quiet_on | (refine ⟨_, fun _ _ => rfl, ?_⟩; go_big_quiet_on))
            first | go_big_quiet_skip | (go_big_quiet_want; go_big_quiet_op; first | go_big_quiet_on | (refine ⟨_, fun _ _ => rfl, ?_⟩; go_big_quiet_on))
            first | go_big_quiet_skip | (go_big_quiet_want; go_big_quiet_op; refine ⟨_, fun W hW => qcall hW (HI3 W).out, ?_⟩; go_big_quiet_on)
            first | go_big_quiet_skip | (go_big_quiet_want; refine ⟨.agg #[.int .i64 cn, .string cs], fun W hW => (by have y0 := (hW.cell (p := ⟨u5.heap.size, 0, none⟩) lC).trans C0; have y1 := (hW.cell (p := ⟨u5.heap.size, 1, none⟩) lC).trans C1; simp [Oper.quietAt, Oper.quietUpon, go_sem, y0, y1]), ?_⟩; simp only [Act.put, List.setIfInBounds_toArray, List.set_cons_zero, List.set_cons_succ]; go_big_quiet_on)
            first | go_big_quiet_skip | (go_big_quiet_want; go_big_quiet_op; first | go_big_quiet_on | (refine ⟨_, fun _ _ => rfl, ?_⟩; go_big_quiet_on))
            first | go_big_quiet_skip | (go_big_quiet_want; go_big_quiet_op; first | go_big_quiet_on | (refine ⟨_, fun _ _ => rfl, ?_⟩; go_big_quiet_on))
            first | go_big_quiet_skip | (go_big_quiet_want; go_big_quiet_op; first | go_big_quiet_on | (refine ⟨_, fun _ _ => rfl, ?_⟩; go_big_quiet_on))
            go_big_quiet_want; go_big_quiet_op; first | go_big_quiet_on | (refine ⟨_, fun _ _ => rfl, ?_⟩; go_big_quiet_on)
            go_big_quiet_want; go_big_quiet_op; first | go_big_quiet_on | (refine ⟨_, fun _ _ => rfl, ?_⟩; go_big_quiet_on)
            first | go_big_quiet_skip | (go_big_quiet_want; go_big_quiet_op; first | go_big_quiet_on | (refine ⟨_, fun _ _ => rfl, ?_⟩; go_big_quiet_on))
            first | go_big_quiet_skip | (go_big_quiet_want; refine ⟨.int .i64 zc, fun W hW => (by have y2 := (hW.cell (p := ⟨u8.heap.size, 2, none⟩) lZ).trans Z2; simp [Oper.quietAt, Oper.quietUpon, go_sem, y2]), ?_⟩; simp only [Act.put, List.setIfInBounds_toArray, List.set_cons_zero, List.set_cons_succ]; go_big_quiet_on)
            first | go_big_quiet_skip | (go_big_quiet_want; go_big_quiet_op; first | go_big_quiet_on | (refine ⟨_, fun _ _ => rfl, ?_⟩; go_big_quiet_on))
            first | go_big_quiet_skip | (go_big_quiet_want; go_big_quiet_op; first | go_big_quiet_on | (refine ⟨_, fun _ _ => rfl, ?_⟩; go_big_quiet_on))
            first | go_big_quiet_skip | (go_big_quiet_want; go_big_quiet_op; first | go_big_quiet_on | (refine ⟨_, fun _ _ => rfl, ?_⟩; go_big_quiet_on))
            first | go_big_quiet_skip | (go_big_quiet_want; refine ⟨.agg #[.int .i64 zn, .string zs], fun W hW => (by have y0 := (hW.cell (p := ⟨u8.heap.size, 0, none⟩) lZ).trans Z0; have y1 := (hW.cell (p := ⟨u8.heap.size, 1, none⟩) lZ).trans Z1; simp [Oper.quietAt, Oper.quietUpon, go_sem, y0, y1]), ?_⟩; simp only [Act.put, List.setIfInBounds_toArray, List.set_cons_zero, List.set_cons_succ]; go_big_quiet_on)
            first | go_big_quiet_skip | (go_big_quiet_want; go_big_quiet_op; refine ⟨_, fun W hW => qcall hW (HI4 W).out, ?_⟩; go_big_quiet_on)
            first | go_big_quiet_skip | (go_big_quiet_want; go_big_quiet_op; first | go_big_quiet_on | (refine ⟨_, fun _ _ => rfl, ?_⟩; go_big_quiet_on))
            first | go_big_quiet_skip | (go_big_quiet_want; go_big_quiet_op; first | go_big_quiet_on | (refine ⟨_, fun _ _ => rfl, ?_⟩; go_big_quiet_on))
            first | go_big_quiet_skip | (go_big_quiet_want; go_big_quiet_op; first | go_big_quiet_on | (refine ⟨_, fun _ _ => rfl, ?_⟩; go_big_quiet_on))
            go_big_quiet_want; go_big_quiet_op; first | go_big_quiet_on | (refine ⟨_, fun _ _ => rfl, ?_⟩; go_big_quiet_on)
            refine wpQuiet_nil ?_
            intro V2 hV2
            clear ck dk cy dy cz dz
            go_wp2_with fail
            go_meet
            exact ⟨rfl, hV2⟩
          · have dz : (zc == 0) = false := beq_eq_false_iff_ne.2 cz
            refine wp_region_quiet (C := fun W => Below U.heap.size U W) (by kernel_rfl) (by kernel_rfl) hV.drew ?_
            dsimp only
            go_big_quiet_want; go_big_quiet_op; first | go_big_quiet_on | (refine ⟨_, fun _ _ => rfl, ?_⟩; go_big_quiet_on)
            go_big_quiet_want; go_big_quiet_op; first | go_big_quiet_on | (refine ⟨_, fun _ _ => rfl, ?_⟩; go_big_quiet_on)
            go_big_quiet_want; go_big_quiet_op; first | go_big_quiet_on | (refine ⟨_, fun _ _ => rfl, ?_⟩; go_big_quiet_on)
            first | go_big_quiet_skip | (go_big_quiet_want; go_big_quiet_op; first | go_big_quiet_on | (refine ⟨_, fun _ _ => rfl, ?_⟩; go_big_quiet_on))
            first | go_big_quiet_skip | (go_big_quiet_want; go_big_quiet_op; refine ⟨_, fun W hW => qcall hW (HI1 W).out, ?_⟩; go_big_quiet_on)
            first | go_big_quiet_skip | (go_big_quiet_want; refine ⟨.agg #[.int .i64 p, .int .i64 b, .int .i64 d, .int .i64 s], fun W hW => (by have y0 := (hW.cell (p := ⟨u2.heap.size, 0, none⟩) lX).trans X0; have y1 := (hW.cell (p := ⟨u2.heap.size, 1, none⟩) lX).trans X1; have y2 := (hW.cell (p := ⟨u2.heap.size, 2, none⟩) lX).trans X2; have y3 := (hW.cell (p := ⟨u2.heap.size, 3, none⟩) lX).trans X3; simp [Oper.quietAt, Oper.quietUpon, go_sem, y0, y1, y2, y3]), ?_⟩; simp only [Act.put, List.setIfInBounds_toArray, List.set_cons_zero, List.set_cons_succ]; go_big_quiet_on)
            first | go_big_quiet_skip | (go_big_quiet_want; go_big_quiet_op; first | go_big_quiet_on | (refine ⟨_, fun _ _ => rfl, ?_⟩; go_big_quiet_on))
            first | go_big_quiet_skip | (go_big_quiet_want; go_big_quiet_op; first | go_big_quiet_on | (refine ⟨_, fun _ _ => rfl, ?_⟩; go_big_quiet_on))
            go_big_quiet_want; go_big_quiet_op; first | go_big_quiet_on | (refine ⟨_, fun _ _ => rfl, ?_⟩; go_big_quiet_on)
            go_big_quiet_want; go_big_quiet_op; first | go_big_quiet_on | (refine ⟨_, fun _ _ => rfl, ?_⟩; go_big_quiet_on)
            first | go_big_quiet_skip | (go_big_quiet_want; go_big_quiet_op; first | go_big_quiet_on | (refine ⟨_, fun _ _ => rfl, ?_⟩; go_big_quiet_on))
            first | go_big_quiet_skip | (go_big_quiet_want; refine ⟨.int .i64 yc, fun W hW => (by have y4 := (hW.cell (p := ⟨u4.heap.size, 4, none⟩) lY).trans Y4; simp [Oper.quietAt, Oper.quietUpon, go_sem, y4]), ?_⟩; simp only [Act.put, List.setIfInBounds_toArray, List.set_cons_zero, List.set_cons_succ]; go_big_quiet_on)
            first | go_big_quiet_skip | (go_big_quiet_want; go_big_quiet_op; first | go_big_quiet_on | (refine ⟨_, fun _ _ => rfl, ?_⟩; go_big_quiet_on))
            first | go_big_quiet_skip | (go_big_quiet_want; go_big_quiet_op; first | go_big_quiet_on | (refine ⟨_, fun _ _ => rfl, ?_⟩; go_big_quiet_on))
            first | go_big_quiet_skip | (go_big_quiet_want; go_big_quiet_op; first | go_big_quiet_on | (refine ⟨_, fun _ _ => rfl, ?_⟩; go_big_quiet_on))
            first | go_big_quiet_skip | (go_big_quiet_want; refine ⟨.agg #[.int .i64 ya, .int .i64 yb, .int .i64 yd, .int .i64 ys], fun W hW => (by have y0 := (hW.cell (p := ⟨u4.heap.size, 0, none⟩) lY).trans Y0; have y1 := (hW.cell (p := ⟨u4.heap.size, 1, none⟩) lY).trans Y1; have y2 := (hW.cell (p := ⟨u4.heap.size, 2, none⟩) lY).trans Y2; have y3 := (hW.cell (p := ⟨u4.heap.size, 3, none⟩) lY).trans Y3; simp [Oper.quietAt, Oper.quietUpon, go_sem, y0, y1, y2, y3]), ?_⟩; simp only [Act.put, List.setIfInBounds_toArray, List.set_cons_zero, List.set_cons_succ]; go_big_quiet_on)
            first | go_big_quiet_skip | (go_big_quiet_want; go_big_quiet_op; refine ⟨_, fun W hW => qcall hW (HI2 W).out, ?_⟩; go_big_quiet_on)
            first | go_big_quiet_skip | (go_big_quiet_want; go_big_quiet_op; first | go_big_quiet_on | (refine ⟨_, fun _ _ => rfl, ?_⟩; go_big_quiet_on))
            first | go_big_quiet_skip | (go_big_quiet_want; go_big_quiet_op; first | go_big_quiet_on | (refine ⟨_, fun _ _ => rfl, ?_⟩; go_big_quiet_on))
            first | go_big_quiet_skip | (go_big_quiet_want; go_big_quiet_op; first | go_big_quiet_on | (refine ⟨_, fun _ _ => rfl, ?_⟩; go_big_quiet_on))
            go_big_quiet_want; go_big_quiet_op; first | go_big_quiet_on | (refine ⟨_, fun _ _ => rfl, ?_⟩; go_big_quiet_on)
            go_big_quiet_want; go_big_quiet_op; first | go_big_quiet_on | (refine ⟨_, fun _ _ => rfl, ?_⟩; go_big_quiet_on)
            first | go_big_quiet_skip | (go_big_quiet_want; go_big_quiet_op; first | go_big_quiet_on | (refine ⟨_, fun _ _ => rfl, ?_⟩; go_big_quiet_on))
            first | go_big_quiet_skip | (go_big_quiet_want; go_big_quiet_op; first | go_big_quiet_on | (refine ⟨_, fun _ _ => rfl, ?_⟩; go_big_quiet_on))
            first | go_big_quiet_skip | (go_big_quiet_want; go_big_quiet_op; first | go_big_quiet_on | (refine ⟨_, fun _ _ => rfl, ?_⟩; go_big_quiet_on))
            first | go_big_quiet_skip | (go_big_quiet_want; go_big_quiet_op; first | go_big_quiet_on | (refine ⟨_, fun _ _ => rfl, ?_⟩; go_big_quiet_on))
            first | go_big_quiet_skip | (go_big_quiet_want; go_big_quiet_op; refine ⟨_, fun W hW => qcall hW (HI3 W).out, ?_⟩; go_big_quiet_on)
            first | go_big_quiet_skip | (go_big_quiet_want; refine ⟨.agg #[.int .i64 cn, .string cs], fun W hW => (by have y0 := (hW.cell (p := ⟨u5.heap.size, 0, none⟩) lC).trans C0; have y1 := (hW.cell (p := ⟨u5.heap.size, 1, none⟩) lC).trans C1; simp [Oper.quietAt, Oper.quietUpon, go_sem, y0, y1]), ?_⟩; simp only [Act.put, List.setIfInBounds_toArray, List.set_cons_zero, List.set_cons_succ]; go_big_quiet_on)
            first | go_big_quiet_skip | (go_big_quiet_want; go_big_quiet_op; first | go_big_quiet_on | (refine ⟨_, fun _ _ => rfl, ?_⟩; go_big_quiet_on))
            first | go_big_quiet_skip | (go_big_quiet_want; go_big_quiet_op; first | go_big_quiet_on | (refine ⟨_, fun _ _ => rfl, ?_⟩; go_big_quiet_on))
            first | go_big_quiet_skip | (go_big_quiet_want; go_big_quiet_op; first | go_big_quiet_on | (refine ⟨_, fun _ _ => rfl, ?_⟩; go_big_quiet_on))
            go_big_quiet_want; go_big_quiet_op; first | go_big_quiet_on | (refine ⟨_, fun _ _ => rfl, ?_⟩; go_big_quiet_on)
            go_big_quiet_want; go_big_quiet_op; first | go_big_quiet_on | (refine ⟨_, fun _ _ => rfl, ?_⟩; go_big_quiet_on)
            first | go_big_quiet_skip | (go_big_quiet_want; go_big_quiet_op; first | go_big_quiet_on | (refine ⟨_, fun _ _ => rfl, ?_⟩; go_big_quiet_on))
            first | go_big_quiet_skip | (go_big_quiet_want; refine ⟨.int .i64 zc, fun W hW => (by have y2 := (hW.cell (p := ⟨u8.heap.size, 2, none⟩) lZ).trans Z2; simp [Oper.quietAt, Oper.quietUpon, go_sem, y2]), ?_⟩; simp only [Act.put, List.setIfInBounds_toArray, List.set_cons_zero, List.set_cons_succ]; go_big_quiet_on)
            first | go_big_quiet_skip | (go_big_quiet_want; go_big_quiet_op; first | go_big_quiet_on | (refine ⟨_, fun _ _ => rfl, ?_⟩; go_big_quiet_on))
            first | go_big_quiet_skip | (go_big_quiet_want; go_big_quiet_op; first | go_big_quiet_on | (refine ⟨_, fun _ _ => rfl, ?_⟩; go_big_quiet_on))
            first | go_big_quiet_skip | (go_big_quiet_want; go_big_quiet_op; first | go_big_quiet_on | (refine ⟨_, fun _ _ => rfl, ?_⟩; go_big_quiet_on))
            first | go_big_quiet_skip | (go_big_quiet_want; refine ⟨.agg #[.int .i64 zn, .string zs], fun W hW => (by have y0 := (hW.cell (p := ⟨u8.heap.size, 0, none⟩) lZ).trans Z0; have y1 := (hW.cell (p := ⟨u8.heap.size, 1, none⟩) lZ).trans Z1; simp [Oper.quietAt, Oper.quietUpon, go_sem, y0, y1]), ?_⟩; simp only [Act.put, List.setIfInBounds_toArray, List.set_cons_zero, List.set_cons_succ]; go_big_quiet_on)
            first | go_big_quiet_skip | (go_big_quiet_want; go_big_quiet_op; refine ⟨_, fun W hW => qcall hW (HI4 W).out, ?_⟩; go_big_quiet_on)
            first | go_big_quiet_skip | (go_big_quiet_want; go_big_quiet_op; first | go_big_quiet_on | (refine ⟨_, fun _ _ => rfl, ?_⟩; go_big_quiet_on))
            first | go_big_quiet_skip | (go_big_quiet_want; go_big_quiet_op; first | go_big_quiet_on | (refine ⟨_, fun _ _ => rfl, ?_⟩; go_big_quiet_on))
            first | go_big_quiet_skip | (go_big_quiet_want; go_big_quiet_op; first | go_big_quiet_on | (refine ⟨_, fun _ _ => rfl, ?_⟩; go_big_quiet_on))
            go_big_quiet_want; go_big_quiet_op; first | go_big_quiet_on | (refine ⟨_, fun _ _ => rfl, ?_⟩; go_big_quiet_on)
            refine wpQuiet_nil ?_
            intro V2 hV2
            clear ck dk cy dy cz dz
            go_wp2_with fail
            go_meet
            exact ⟨rfl, hV2⟩
        · have HI3 := fun W => Lib.hid (implCanRead_any ⟨(tx :: ts).toArray⟩ W HTS.out)
          rw [HM3.out (by simp)] at HI3
          by_cases cz : zc = 0
          · obtain ⟨z1, z2, z3⟩ := HM4.out cz
            have HI4 := fun W => Lib.hid (implCanBytes_any zn zs W (by omega) (by omega) (Nat.le_trans z3 HUM.out))
            rw [z1] at HI4
            have dz : (zc == 0) = true := beq_iff_eq.2 cz
            clear z1 z2 z3
            refine wp_region_quiet (C := fun W => Below U.heap.size U W) (by kernel_rfl) (by kernel_rfl) hV.drew ?_
            dsimp only
            go_big_quiet_want; go_big_quiet_op; first | go_big_quiet_on | (refine ⟨_, fun _ _ => rfl, ?_⟩; go_big_quiet_on)
            go_big_quiet_want; go_big_quiet_op; first | go_big_quiet_on | (refine ⟨_, fun _ _ => rfl, ?_⟩; go_big_quiet_on)
            go_big_quiet_want; go_big_quiet_op; first | go_big_quiet_on | (refine ⟨_, fun _ _ => rfl, ?_⟩; go_big_quiet_on)
            first | go_big_quiet_skip | (go_big_quiet_want; go_big_quiet_op; first | go_big_quiet_on | (refine ⟨_, fun _ _ => rfl, ?_⟩; go_big_quiet_on))
            first | go_big_quiet_skip | (go_big_quiet_want; go_big_quiet_op; refine ⟨_, fun W hW => qcall hW (HI1 W).out, ?_⟩; go_big_quiet_on)
            first | go_big_quiet_skip | (go_big_quiet_want; refine ⟨.agg #[.int .i64 p, .int .i64 b, .int .i64 d, .int .i64 s], fun W hW => (by have y0 := (hW.cell (p := ⟨u2.heap.size, 0, none⟩) lX).trans X0; have y1 := (hW.cell (p := ⟨u2.heap.size, 1, none⟩) lX).trans X1; have y2 := (hW.cell (p := ⟨u2.heap.size, 2, none⟩) lX).trans X2; have y3 := (hW.cell (p := ⟨u2.heap.size, 3, none⟩) lX).trans X3; simp [Oper.quietAt, Oper.quietUpon, go_sem, y0, y1, y2, y3]), ?_⟩; simp only [Act.put, List.setIfInBounds_toArray, List.set_cons_zero, List.set_cons_succ]; go_big_quiet_on)
            first | go_big_quiet_skip | (go_big_quiet_want; go_big_quiet_op; first | go_big_quiet_on | (refine ⟨_, fun _ _ => rfl, ?_⟩; go_big_quiet_on))
            first | go_big_quiet_skip | (go_big_quiet_want; go_big_quiet_op; first | go_big_quiet_on | (refine ⟨_, fun _ _ => rfl, ?_⟩; go_big_quiet_on))
            go_big_quiet_want; go_big_quiet_op; first | go_big_quiet_on | (refine ⟨_, fun _ _ => rfl, ?_⟩; go_big_quiet_on)
            go_big_quiet_want; go_big_quiet_op; first | go_big_quiet_on | (refine ⟨_, fun _ _ => rfl, ?_⟩; go_big_quiet_on)
            first | go_big_quiet_skip | (go_big_quiet_want; go_big_quiet_op; first | go_big_quiet_on | (refine ⟨_, fun _ _ => rfl, ?_⟩; go_big_quiet_on))
            first | go_big_quiet_skip | (go_big_quiet_want; refine ⟨.int .i64 yc, fun W hW => (by have y4 := (hW.cell (p := ⟨u4.heap.size, 4, none⟩) lY).trans Y4; simp [Oper.quietAt, Oper.quietUpon, go_sem, y4]), ?_⟩; simp only [Act.put, List.setIfInBounds_toArray, List.set_cons_zero, List.set_cons_succ]; go_big_quiet_on)
            first | go_big_quiet_skip | (go_big_quiet_want; go_big_quiet_op; first | go_big_quiet_on | (refine ⟨_, fun _ _ => rfl, ?_⟩; go_big_quiet_on))
            first | go_big_quiet_skip | (go_big_quiet_want; go_big_quiet_op; first | go_big_quiet_on | (refine ⟨_, fun _ _ => rfl, ?_⟩; go_big_quiet_on))
            first | go_big_quiet_skip | (go_big_quiet_want; go_big_quiet_op; first | go_big_quiet_on | (refine ⟨_, fun _ _ => rfl, ?_⟩; go_big_quiet_on))
            first | go_big_quiet_skip | (go_big_quiet_want; refine ⟨.agg #[.int .i64 ya, .int .i64 yb, .int .i64 yd, .int .i64 ys], fun W hW => (by have y0 := (hW.cell (p := ⟨u4.heap.size, 0, none⟩) lY).trans Y0; have y1 := (hW.cell (p := ⟨u4.heap.size, 1, none⟩) lY).trans Y1; have y2 := (hW.cell (p := ⟨u4.heap.size, 2, none⟩) lY).trans Y2; have y3 := (hW.cell (p := ⟨u4.heap.size, 3, none⟩) lY).trans Y3; simp [Oper.quietAt, Oper.quietUpon, go_sem, y0, y1, y2, y3]), ?_⟩; simp only [Act.put, List.setIfInBounds_toArray, List.set_cons_zero, List.set_cons_succ]; go_big_quiet_on)
            first | go_big_quiet_skip | (go_big_quiet_want; go_big_quiet_op; refine ⟨_, fun W hW => qcall hW (HI2 W).out, ?_⟩; go_big_quiet_on)
            first | go_big_quiet_skip | (go_big_quiet_want; go_big_quiet_op; first | go_big_quiet_on | (refine ⟨_, fun _ _ => rfl, ?_⟩; go_big_quiet_on))
            first | go_big_quiet_skip | (go_big_quiet_want; go_big_quiet_op; first | go_big_quiet_on | (refine ⟨_, fun _ _ => rfl, ?_⟩; go_big_quiet_on))
            first | go_big_quiet_skip | (go_big_quiet_want; go_big_quiet_op; first | go_big_quiet_on | (refine ⟨_, fun _ _ => rfl, ?_⟩; go_big_quiet_on))
            go_big_quiet_want; go_big_quiet_op; first | go_big_quiet_on | (refine ⟨_, fun _ _ => rfl, ?_⟩; go_big_quiet_on)
            go_big_quiet_want; go_big_quiet_op; first | go_big_quiet_on | (refine ⟨_, fun _ _ => rfl, ?_⟩; go_big_quiet_on)
            first | go_big_quiet_skip | (go_big_quiet_want; go_big_quiet_op; first | go_big_quiet_on | (refine ⟨_, fun _ _ => rfl, ?_⟩; go_big_quiet_on))
            first | go_big_quiet_skip | (go_big_quiet_want; go_big_quiet_op; first | go_big_quiet_on | (refine ⟨_, fun _ _ => rfl, ?_⟩; go_big_quiet_on))
            first | go_big_quiet_skip | (go_big_quiet_want; go_big_quiet_op; first | go_big_quiet_on | (refine ⟨_, fun _ _ => rfl, ?_⟩; go_big_quiet_on))
            first | go_big_quiet_skip | (go_big_quiet_want; go_big_quiet_op; first | go_big_quiet_on | (refine ⟨_, fun _ _ => rfl, ?_⟩; go_big_quiet_on))
            first | go_big_quiet_skip | (go_big_quiet_want; go_big_quiet_op; refine ⟨_, fun W hW => qcall hW (HI3 W).out, ?_⟩; go_big_quiet_on)
            first | go_big_quiet_skip | (go_big_quiet_want; refine ⟨.agg #[.int .i64 cn, .string cs], fun W hW => (by have y0 := (hW.cell (p := ⟨u5.heap.size, 0, none⟩) lC).trans C0; have y1 := (hW.cell (p := ⟨u5.heap.size, 1, none⟩) lC).trans C1; simp [Oper.quietAt, Oper.quietUpon, go_sem, y0, y1]), ?_⟩; simp only [Act.put, List.setIfInBounds_toArray, List.set_cons_zero, List.set_cons_succ]; go_big_quiet_on)
            first | go_big_quiet_skip | (go_big_quiet_want; go_big_quiet_op; first | go_big_quiet_on | (refine ⟨_, fun _ _ => rfl, ?_⟩; go_big_quiet_on))
            first | go_big_quiet_skip | (go_big_quiet_want; go_big_quiet_op; first | go_big_quiet_on | (refine ⟨_, fun _ _ => rfl, ?_⟩; go_big_quiet_on))
            first | go_big_quiet_skip | (go_big_quiet_want; go_big_quiet_op; first | go_big_quiet_on | (refine ⟨_, fun _ _ => rfl, ?_⟩; go_big_quiet_on))
            go_big_quiet_want; go_big_quiet_op; first | go_big_quiet_on | (refine ⟨_, fun _ _ => rfl, ?_⟩; go_big_quiet_on)
            go_big_quiet_want; go_big_quiet_op; first | go_big_quiet_on | (refine ⟨_, fun _ _ => rfl, ?_⟩; go_big_quiet_on)
            first | go_big_quiet_skip | (go_big_quiet_want; go_big_quiet_op; first | go_big_quiet_on | (refine ⟨_, fun _ _ => rfl, ?_⟩; go_big_quiet_on))
            first | go_big_quiet_skip | (go_big_quiet_want; refine ⟨.int .i64 zc, fun W hW => (by have y2 := (hW.cell (p := ⟨u8.heap.size, 2, none⟩) lZ).trans Z2; simp [Oper.quietAt, Oper.quietUpon, go_sem, y2]), ?_⟩; simp only [Act.put, List.setIfInBounds_toArray, List.set_cons_zero, List.set_cons_succ]; go_big_quiet_on)
            first | go_big_quiet_skip | (go_big_quiet_want; go_big_quiet_op; first | go_big_quiet_on | (refine ⟨_, fun _ _ => rfl, ?_⟩; go_big_quiet_on))
            first | go_big_quiet_skip | (go_big_quiet_want; go_big_quiet_op; first | go_big_quiet_on | (refine ⟨_, fun _ _ => rfl, ?_⟩; go_big_quiet_on))
            first | go_big_quiet_skip | (go_big_quiet_want; go_big_quiet_op; first | go_big_quiet_on | (refine ⟨_, fun _ _ => rfl, ?_⟩; go_big_quiet_on))
            first | go_big_quiet_skip | (go_big_quiet_want; refine ⟨.agg #[.int .i64 zn, .string zs], fun W hW => (by have y0 := (hW.cell (p := ⟨u8.heap.size, 0, none⟩) lZ).trans Z0; have y1 := (hW.cell (p := ⟨u8.heap.size, 1, none⟩) lZ).trans Z1; simp [Oper.quietAt, Oper.quietUpon, go_sem, y0, y1]), ?_⟩; simp only [Act.put, List.setIfInBounds_toArray, List.set_cons_zero, List.set_cons_succ]; go_big_quiet_on)
            first | go_big_quiet_skip | (go_big_quiet_want; go_big_quiet_op; refine ⟨_, fun W hW => qcall hW (HI4 W).out, ?_⟩; go_big_quiet_on)
            first | go_big_quiet_skip | (go_big_quiet_want; go_big_quiet_op; first | go_big_quiet_on | (refine ⟨_, fun _ _ => rfl, ?_⟩; go_big_quiet_on))
            first | go_big_quiet_skip | (go_big_quiet_want; go_big_quiet_op; first | go_big_quiet_on | (refine ⟨_, fun _ _ => rfl, ?_⟩; go_big_quiet_on))
            first | go_big_quiet_skip | (go_big_quiet_want; go_big_quiet_op; first | go_big_quiet_on | (refine ⟨_, fun _ _ => rfl, ?_⟩; go_big_quiet_on))
            go_big_quiet_want; go_big_quiet_op; first | go_big_quiet_on | (refine ⟨_, fun _ _ => rfl, ?_⟩; go_big_quiet_on)
            refine wpQuiet_nil ?_
            intro V2 hV2
            clear ck dk cy dy cz dz
            go_wp2_with fail
            go_meet
            exact ⟨rfl, hV2⟩
          · have dz : (zc == 0) = false := beq_eq_false_iff_ne.2 cz
            refine wp_region_quiet (C := fun W => Below U.heap.size U W) (by kernel_rfl) (by kernel_rfl) hV.drew ?_
            dsimp only
            go_big_quiet_want; go_big_quiet_op; first | go_big_quiet_on | (refine ⟨_, fun _ _ => rfl, ?_⟩; go_big_quiet_on)
            go_big_quiet_want; go_big_quiet_op; first | go_big_quiet_on | (refine ⟨_, fun _ _ => rfl, ?_⟩; go_big_quiet_on)
            go_big_quiet_want; go_big_quiet_op; first | go_big_quiet_on | (refine ⟨_, fun _ _ => rfl, ?_⟩; go_big_quiet_on)
            first | go_big_quiet_skip | (go_big_quiet_want; go_big_quiet_op; first | go_big_quiet_on | (refine ⟨_, fun _ _ => rfl, ?_⟩; go_big_quiet_on))
            first | go_big_quiet_skip | (go_big_quiet_want; go_big_quiet_op; refine ⟨_, fun W hW => qcall hW (HI1 W).out, ?_⟩; go_big_quiet_on)
            first | go_big_quiet_skip | (go_big_quiet_want; refine ⟨.agg #[.int .i64 p, .int .i64 b, .int .i64 d, .int .i64 s], fun W hW => (by have y0 := (hW.cell (p := ⟨u2.heap.size, 0, none⟩) lX).trans X0; have y1 := (hW.cell (p := ⟨u2.heap.size, 1, none⟩) lX).trans X1; have y2 := (hW.cell (p := ⟨u2.heap.size, 2, none⟩) lX).trans X2; have y3 := (hW.cell (p := ⟨u2.heap.size, 3, none⟩) lX).trans X3; simp [Oper.quietAt, Oper.quietUpon, go_sem, y0, y1, y2, y3]), ?_⟩; simp only [Act.put, List.setIfInBounds_toArray, List.set_cons_zero, List.set_cons_succ]; go_big_quiet_on)
            first | go_big_quiet_skip | (go_big_quiet_want; go_big_quiet_op; first | go_big_quiet_on | (refine ⟨_, fun _ _ => rfl, ?_⟩; go_big_quiet_on))
            first | go_big_quiet_skip | (go_big_quiet_want; go_big_quiet_op; first | go_big_quiet_on | (refine ⟨_, fun _ _ => rfl, ?_⟩; go_big_quiet_on))
            go_big_quiet_want; go_big_quiet_op; first | go_big_quiet_on | (refine ⟨_, fun _ _ => rfl, ?_⟩; go_big_quiet_on)
            go_big_quiet_want; go_big_quiet_op; first | go_big_quiet_on | (refine ⟨_, fun _ _ => rfl, ?_⟩; go_big_quiet_on)
            first | go_big_quiet_skip | (go_big_quiet_want; go_big_quiet_op; first | go_big_quiet_on | (refine ⟨_, fun _ _ => rfl, ?_⟩; go_big_quiet_on))
            first | go_big_quiet_skip | (go_big_quiet_want; refine ⟨.int .i64 yc, fun W hW => (by have y4 := (hW.cell (p := ⟨u4.heap.size, 4, none⟩) lY).trans Y4; simp [Oper.quietAt, Oper.quietUpon, go_sem, y4]), ?_⟩; simp only [Act.put, List.setIfInBounds_toArray, List.set_cons_zero, List.set_cons_succ]; go_big_quiet_on)
            first | go_big_quiet_skip | (go_big_quiet_want; go_big_quiet_op; first | go_big_quiet_on | (refine ⟨_, fun _ _ => rfl, ?_⟩; go_big_quiet_on))
            first | go_big_quiet_skip | (go_big_quiet_want; go_big_quiet_op; first | go_big_quiet_on | (refine ⟨_, fun _ _ => rfl, ?_⟩; go_big_quiet_on))
            first | go_big_quiet_skip | (go_big_quiet_want; go_big_quiet_op; first | go_big_quiet_on | (refine ⟨_, fun _ _ => rfl, ?_⟩; go_big_quiet_on))
            first | go_big_quiet_skip | (go_big_quiet_want; refine ⟨.agg #[.int .i64 ya, .int .i64 yb, .int .i64 yd, .int .i64 ys], fun W hW => (by have y0 := (hW.cell (p := ⟨u4.heap.size, 0, none⟩) lY).trans Y0; have y1 := (hW.cell (p := ⟨u4.heap.size, 1, none⟩) lY).trans Y1; have y2 := (hW.cell (p := ⟨u4.heap.size, 2, none⟩) lY).trans Y2; have y3 := (hW.cell (p := ⟨u4.heap.size, 3, none⟩) lY).trans Y3; simp [Oper.quietAt, Oper.quietUpon, go_sem, y0, y1, y2, y3]), ?_⟩; simp only [Act.put, List.setIfInBounds_toArray, List.set_cons_zero, List.set_cons_succ]; go_big_quiet_on)
            first | go_big_quiet_skip | (go_big_quiet_want; go_big_quiet_op; refine ⟨_, fun W hW => qcall hW (HI2 W).out, ?_⟩; go_big_quiet_on)
            first | go_big_quiet_skip | (go_big_quiet_want; go_big_quiet_op; first | go_big_quiet_on | (refine ⟨_, fun _ _ => rfl, ?_⟩; go_big_quiet_on))
            first | go_big_quiet_skip | (go_big_quiet_want; go_big_quiet_op; first | go_big_quiet_on | (refine ⟨_, fun _ _ => rfl, ?_⟩; go_big_quiet_on))
            first | go_big_quiet_skip | (go_big_quiet_want; go_big_quiet_op; first | go_big_quiet_on | (refine ⟨_, fun _ _ => rfl, ?_⟩; go_big_quiet_on))
            go_big_quiet_want; go_big_quiet_op; first | go_big_quiet_on | (refine ⟨_, fun _ _ => rfl, ?_⟩; go_big_quiet_on)
            go_big_quiet_want; go_big_quiet_op; first | go_big_quiet_on | (refine ⟨_, fun _ _ => rfl, ?_⟩; go_big_quiet_on)
            first | go_big_quiet_skip | (go_big_quiet_want; go_big_quiet_op; first | go_big_quiet_on | (refine ⟨_, fun _ _ => rfl, ?_⟩; go_big_quiet_on))
            first | go_big_quiet_skip | (go_big_quiet_want; go_big_quiet_op; first | go_big_quiet_on | (refine ⟨_, fun _ _ => rfl, ?_⟩; go_big_quiet_on))
            first | go_big_quiet_skip | (go_big_quiet_want; go_big_quiet_op; first | go_big_quiet_on | (refine ⟨_, fun _ _ => rfl, ?_⟩; go_big_quiet_on))
            first | go_big_quiet_skip | (go_big_quiet_want; go_big_quiet_op; first | go_big_quiet_on | (refine ⟨_, fun _ _ => rfl, ?_⟩; go_big_quiet_on))
            first | go_big_quiet_skip | (go_big_quiet_want; go_big_quiet_op; refine ⟨_, fun W hW => qcall hW (HI3 W).out, ?_⟩; go_big_quiet_on)
            first | go_big_quiet_skip | (go_big_quiet_want; refine ⟨.agg #[.int .i64 cn, .string cs], fun W hW => (by have y0 := (hW.cell (p := ⟨u5.heap.size, 0, none⟩) lC).trans C0; have y1 := (hW.cell (p := ⟨u5.heap.size, 1, none⟩) lC).trans C1; simp [Oper.quietAt, Oper.quietUpon, go_sem, y0, y1]), ?_⟩; simp only [Act.put, List.setIfInBounds_toArray, List.set_cons_zero, List.set_cons_succ]; go_big_quiet_on)
            first | go_big_quiet_skip | (go_big_quiet_want; go_big_quiet_op; first | go_big_quiet_on | (refine ⟨_, fun _ _ => rfl, ?_⟩; go_big_quiet_on))
            first | go_big_quiet_skip | (go_big_quiet_want; go_big_quiet_op; first | go_big_quiet_on | (refine ⟨_, fun _ _ => rfl, ?_⟩; go_big_quiet_on))
            first | go_big_quiet_skip | (go_big_quiet_want; go_big_quiet_op; first | go_big_quiet_on | (refine ⟨_, fun _ _ => rfl, ?_⟩; go_big_quiet_on))
            go_big_quiet_want; go_big_quiet_op; first | go_big_quiet_on | (refine ⟨_, fun _ _ => rfl, ?_⟩; go_big_quiet_on)
            go_big_quiet_want; go_big_quiet_op; first | go_big_quiet_on | (refine ⟨_, fun _ _ => rfl, ?_⟩; go_big_quiet_on)
            first | go_big_quiet_skip | (go_big_quiet_want; go_big_quiet_op; first | go_big_quiet_on | (refine ⟨_, fun _ _ => rfl, ?_⟩; go_big_quiet_on))
            first | go_big_quiet_skip | (go_big_quiet_want; refine ⟨.int .i64 zc, fun W hW => (by have y2 := (hW.cell (p := ⟨u8.heap.size, 2, none⟩) lZ).trans Z2; simp [Oper.quietAt, Oper.quietUpon, go_sem, y2]), ?_⟩; simp only [Act.put, List.setIfInBounds_toArray, List.set_cons_zero, List.set_cons_succ]; go_big_quiet_on)
            first | go_big_quiet_skip | (go_big_quiet_want; go_big_quiet_op; first | go_big_quiet_on | (refine ⟨_, fun _ _ => rfl, ?_⟩; go_big_quiet_on))
            first | go_big_quiet_skip | (go_big_quiet_want; go_big_quiet_op; first | go_big_quiet_on | (refine ⟨_, fun _ _ => rfl, ?_⟩; go_big_quiet_on))
            first | go_big_quiet_skip | (go_big_quiet_want; go_big_quiet_op; first | go_big_quiet_on | (refine ⟨_, fun _ _ => rfl, ?_⟩; go_big_quiet_on))
            first | go_big_quiet_skip | (go_big_quiet_want; refine ⟨.agg #[.int .i64 zn, .string zs], fun W hW => (by have y0 := (hW.cell (p := ⟨u8.heap.size, 0, none⟩) lZ).trans Z0; have y1 := (hW.cell (p := ⟨u8.heap.size, 1, none⟩) lZ).trans Z1; simp [Oper.quietAt, Oper.quietUpon, go_sem, y0, y1]), ?_⟩; simp only [Act.put, List.setIfInBounds_toArray, List.set_cons_zero, List.set_cons_succ]; go_big_quiet_on)
            first | go_big_quiet_skip | (go_big_quiet_want; go_big_quiet_op; refine ⟨_, fun W hW => qcall hW (HI4 W).out, ?_⟩; go_big_quiet_on)
            first | go_big_quiet_skip | (go_big_quiet_want; go_big_quiet_op; first | go_big_quiet_on | (refine ⟨_, fun _ _ => rfl, ?_⟩; go_big_quiet_on))
            first | go_big_quiet_skip | (go_big_quiet_want; go_big_quiet_op; first | go_big_quiet_on | (refine ⟨_, fun _ _ => rfl, ?_⟩; go_big_quiet_on))
            first | go_big_quiet_skip | (go_big_quiet_want; go_big_quiet_op; first | go_big_quiet_on | (refine ⟨_, fun _ _ => rfl, ?_⟩; go_big_quiet_on))
            go_big_quiet_want; go_big_quiet_op; first | go_big_quiet_on | (refine ⟨_, fun _ _ => rfl, ?_⟩; go_big_quiet_on)
            refine wpQuiet_nil ?_
            intro V2 hV2
            clear ck dk cy dy cz dz
            go_wp2_with fail
            go_meet
            exact ⟨rfl, hV2⟩
    · have dk : decide (0 ≤ k) = false := decide_eq_false ck
      by_cases cy : yc = 0
      · have dy : (yc == 0) = true := beq_iff_eq.2 cy
        have HI2 := fun W => Lib.hid (implIdNum_any ya yb yd ys W)
        rw [HM2.out cy] at HI2
        rcases tb with _ | ⟨tx, ts⟩
        · by_cases cz : zc = 0
          · obtain ⟨z1, z2, z3⟩ := HM4.out cz
            have HI4 := fun W => Lib.hid (implCanBytes_any zn zs W (by omega) (by omega) (Nat.le_trans z3 HUM.out))
            rw [z1] at HI4
            have dz : (zc == 0) = true := beq_iff_eq.2 cz
            clear z1 z2 z3
            refine wp_region_quiet (C := fun W => Below U.heap.size U W) (by kernel_rfl) (by kernel_rfl) hV.drew ?_
            dsimp only
            go_big_quiet_want; go_big_quiet_op; first | go_big_quiet_on | (refine ⟨_, fun _ _ => rfl, ?_⟩; go_big_quiet_on)
            go_big_quiet_want; go_big_quiet_op; first | go_big_quiet_on | (refine ⟨_, fun _ _ => rfl, ?_⟩; go_big_quiet_on)
            go_big_quiet_want; go_big_quiet_op; first | go_big_quiet_on | (refine ⟨_, fun _ _ => rfl, ?_⟩; go_big_quiet_on)
            first | go_big_quiet_skip | (go_big_quiet_want; go_big_quiet_op; first | go_big_quiet_on | (refine ⟨_, fun _ _ => rfl, ?_⟩; go_big_quiet_on))
            first | go_big_quiet_skip | (go_big_quiet_want; go_big_quiet_op; refine ⟨_, fun W hW => qcall hW (HI1 W).out, ?_⟩; go_big_quiet_on)
            first | go_big_quiet_skip | (go_big_quiet_want; refine ⟨.agg #[.int .i64 p, .int .i64 b, .int .i64 d, .int .i64 s], fun W hW => (by have y0 := (hW.cell (p := ⟨u2.heap.size, 0, none⟩) lX).trans X0; have y1 := (hW.cell (p := ⟨u2.heap.size, 1, none⟩) lX).trans X1; have y2 := (hW.cell (p := ⟨u2.heap.size, 2, none⟩) lX).trans X2; have y3 := (hW.cell (p := ⟨u2.heap.size, 3, none⟩) lX).trans X3; simp [Oper.quietAt, Oper.quietUpon, go_sem, y0, y1, y2, y3]), ?_⟩; simp only [Act.put, List.setIfInBounds_toArray, List.set_cons_zero, List.set_cons_succ]; go_big_quiet_on)
            first | go_big_quiet_skip | (go_big_quiet_want; go_big_quiet_op; first | go_big_quiet_on | (refine ⟨_, fun _ _ => rfl, ?_⟩; go_big_quiet_on))
            first | go_big_quiet_skip | (go_big_quiet_want; go_big_quiet_op; first | go_big_quiet_on | (refine ⟨_, fun _ _ => rfl, ?_⟩; go_big_quiet_on))
            go_big_quiet_want; go_big_quiet_op; first | go_big_quiet_on | (refine ⟨_, fun _ _ => rfl, ?_⟩; go_big_quiet_on)
            go_big_quiet_want; go_big_quiet_op; first | go_big_quiet_on | (refine ⟨_, fun _ _ => rfl, ?_⟩; go_big_quiet_on)
            first | go_big_quiet_skip | (go_big_quiet_want; go_big_quiet_op; first | go_big_quiet_on | (refine ⟨_, fun _ _ => rfl, ?_⟩; go_big_quiet_on))
            first | go_big_quiet_skip | (go_big_quiet_want; refine ⟨.int .i64 yc, fun W hW => (by have y4 := (hW.cell (p := ⟨u4.heap.size, 4, none⟩) lY).trans Y4; simp [Oper.quietAt, Oper.quietUpon, go_sem, y4]), ?_⟩; simp only [Act.put, List.setIfInBounds_toArray, List.set_cons_zero, List.set_cons_succ]; go_big_quiet_on)
            first | go_big_quiet_skip | (go_big_quiet_want; go_big_quiet_op; first | go_big_quiet_on | (refine ⟨_, fun _ _ => rfl, ?_⟩; go_big_quiet_on))
            first | go_big_quiet_skip | (go_big_quiet_want; go_big_quiet_op; first | go_big_quiet_on | (refine ⟨_, fun _ _ => rfl, ?_⟩; go_big_quiet_on))
            first | go_big_quiet_skip | (go_big_quiet_want; go_big_quiet_op; first | go_big_quiet_on | (refine ⟨_, fun _ _ => rfl, ?_⟩; go_big_quiet_on))
            first | go_big_quiet_skip | (go_big_quiet_want; refine ⟨.agg #[.int .i64 ya, .int .i64 yb, .int .i64 yd, .int .i64 ys], fun W hW => (by have y0 := (hW.cell (p := ⟨u4.heap.size, 0, none⟩) lY).trans Y0; have y1 := (hW.cell (p := ⟨u4.heap.size, 1, none⟩) lY).trans Y1; have y2 := (hW.cell (p := ⟨u4.heap.size, 2, none⟩) lY).trans Y2; have y3 := (hW.cell (p := ⟨u4.heap.size, 3, none⟩) lY).trans Y3; simp [Oper.quietAt, Oper.quietUpon, go_sem, y0, y1, y2, y3]), ?_⟩; simp only [Act.put, List.setIfInBounds_toArray, List.set_cons_zero, List.set_cons_succ]; go_big_quiet_on)
            first | go_big_quiet_skip | (go_big_quiet_want; go_big_quiet_op; refine ⟨_, fun W hW => qcall hW (HI2 W).out, ?_⟩; go_big_quiet_on)
            first | go_big_quiet_skip | (go_big_quiet_want; go_big_quiet_op; first | go_big_quiet_on | (refine ⟨_, fun _ _ => rfl, ?_⟩; go_big_quiet_on))
            first | go_big_quiet_skip | (go_big_quiet_want; go_big_quiet_op; first | go_big_quiet_on | (refine ⟨_, fun _ _ => rfl, ?_⟩; go_big_quiet_on))
            first | go_big_quiet_skip | (go_big_quiet_want; go_big_quiet_op; first | go_big_quiet_on | (refine ⟨_, fun _ _ => rfl, ?_⟩; go_big_quiet_on))
            go_big_quiet_want; go_big_quiet_op; first | go_big_quiet_on | (refine ⟨_, fun _ _ => rfl, ?_⟩; go_big_quiet_on)
            go_big_quiet_want; go_big_quiet_op; first | go_big_quiet_on | (refine ⟨_, fun _ _ => rfl, ?_⟩; go_big_quiet_on)
            first | go_big_quiet_skip | (go_big_quiet_want; go_big_quiet_op; first | go_big_quiet_on | (refine ⟨_, fun _ _ => rfl, ?_⟩; go_big_quiet_on))
            first | go_big_quiet_skip | (go_big_quiet_want; go_big_quiet_op; first | go_big_quiet_on | (refine ⟨_, fun _ _ => rfl, ?_⟩; go_big_quiet_on))
            first | go_big_quiet_skip | (go_big_quiet_want; go_big_quiet_op; first | go_big_quiet_on | (refine ⟨_, fun _ _ => rfl, ?_⟩; go_big_quiet_on))
            first | go_big_quiet_skip | (go_big_quiet_want; go_big_quiet_op; first | go_big_quiet_on | (refine ⟨_, fun _ _ => rfl, ?_⟩; go_big_quiet_on))
            first | go_big_quiet_skip | (go_big_quiet_want; go_big_quiet_op; refine ⟨_, fun W hW => qcall hW (HI3 W).out, ?_⟩; go_big_quiet_on)
            first | go_big_quiet_skip | (go_big_quiet_want; refine ⟨.agg #[.int .i64 cn, .string cs], fun W hW => (by have y0 := (hW.cell (p := ⟨u5.heap.size, 0, none⟩) lC).trans C0; have y1 := (hW.cell (p := ⟨u5.heap.size, 1, none⟩) lC).trans C1; simp [Oper.quietAt, Oper.quietUpon, go_sem, y0, y1]), ?_⟩; simp only [Act.put, List.setIfInBounds_toArray, List.set_cons_zero, List.set_cons_succ]; go_big_quiet_on)
            first | go_big_quiet_skip | (go_big_quiet_want; go_big_quiet_op; first | go_big_quiet_on | (refine ⟨_, fun _ _ => rfl, ?_⟩; go_big_quiet_on))
            first | go_big_quiet_skip | (go_big_quiet_want; go_big_quiet_op; first | go_big_quiet_on | (refine ⟨_, fun _ _ => rfl, ?_⟩; go_big_quiet_on))
            first | go_big_quiet_skip | (go_big_quiet_want; go_big_quiet_op; first | go_big_quiet_on | (refine ⟨_, fun _ _ => rfl, ?_⟩; go_big_quiet_on))
            go_big_quiet_want; go_big_quiet_op; first | go_big_quiet_on | (refine ⟨_, fun _ _ => rfl, ?_⟩; go_big_quiet_on)
            go_big_quiet_want; go_big_quiet_op; first | go_big_quiet_on | (refine ⟨_, fun _ _ => rfl, ?_⟩; go_big_quiet_on)
            first | go_big_quiet_skip | (go_big_quiet_want; go_big_quiet_op; first | go_big_quiet_on | (refine ⟨_, fun _ _ => rfl, ?_⟩; go_big_quiet_on))
            first | go_big_quiet_skip | (go_big_quiet_want; refine ⟨.int .i64 zc, fun W hW => (by have y2 := (hW.cell (p := ⟨u8.heap.size, 2, none⟩) lZ).trans Z2; simp [Oper.quietAt, Oper.quietUpon, go_sem, y2]), ?_⟩; simp only [Act.put, List.setIfInBounds_toArray, List.set_cons_zero, List.set_cons_succ]; go_big_quiet_on)
            first | go_big_quiet_skip | (go_big_quiet_want; go_big_quiet_op; first | go_big_quiet_on | (refine ⟨_, fun _ _ => rfl, ?_⟩; go_big_quiet_on))
            first | go_big_quiet_skip | (go_big_quiet_want; go_big_quiet_op; first | go_big_quiet_on | (refine ⟨_, fun _ _ => rfl, ?_⟩; go_big_quiet_on))
            first | go_big_quiet_skip | (go_big_quiet_want; go_big_quiet_op; first | go_big_quiet_on | (refine ⟨_, fun _ _ => rfl, ?_⟩; go_big_quiet_on))
            first | go_big_quiet_skip | (go_big_quiet_want; refine ⟨.agg #[.int .i64 zn, .string zs], fun W hW => (by have y0 := (hW.cell (p := ⟨u8.heap.size, 0, none⟩) lZ).trans Z0; have y1 := (hW.cell (p := ⟨u8.heap.size, 1, none⟩) lZ).trans Z1; simp [Oper.quietAt, Oper.quietUpon, go_sem, y0, y1]), ?_⟩; simp only [Act.put, List.setIfInBounds_toArray, List.set_cons_zero, List.set_cons_succ]; go_big_quiet_on)
            first | go_big_quiet_skip | (go_big_quiet_want; go_big_quiet_op; refine ⟨_, fun W hW => qcall hW (HI4 W).out, ?_⟩; go_big_quiet_on)
            first | go_big_quiet_skip | (go_big_quiet_want; go_big_quiet_op; first | go_big_quiet_on | (refine ⟨_, fun _ _ => rfl, ?_⟩; go_big_quiet_on))
            first | go_big_quiet_skip | (go_big_quiet_want; go_big_quiet_op; first | go_big_quiet_on | (refine ⟨_, fun _ _ => rfl, ?_⟩; go_big_quiet_on))
            first | go_big_quiet_skip | (go_big_quiet_want; go_big_quiet_op; first | go_big_quiet_on | (refine ⟨_, fun _ _ => rfl, ?_⟩; go_big_quiet_on))
            go_big_quiet_want; go_big_quiet_op; first | go_big_quiet_on | (refine ⟨_, fun _ _ => rfl, ?_⟩; go_big_quiet_on)
            refine wpQuiet_nil ?_
            intro V2 hV2
            clear ck dk cy dy cz dz
            go_wp2_with fail
            go_meet
            exact ⟨rfl, hV2⟩
          · have dz : (zc == 0) = false := beq_eq_false_iff_ne.2 cz
            refine wp_region_quiet (C := fun W => Below U.heap.size U W) (by kernel_rfl) (by kernel_rfl) hV.drew ?_
            dsimp only
            go_big_quiet_want; go_big_quiet_op; first | go_big_quiet_on | (refine ⟨_, fun _ _ => rfl, ?_⟩; go_big_quiet_on)
            go_big_quiet_want; go_big_quiet_op; first | go_big_quiet_on | (refine ⟨_, fun _ _ => rfl, ?_⟩; go_big_quiet_on)
            go_big_quiet_want; go_big_quiet_op; first | go_big_quiet_on | (refine ⟨_, fun _ _ => rfl, ?_⟩; go_big_quiet_on)
            first | go_big_quiet_skip | (go_big_quiet_want; go_big_quiet_op; first | go_big_quiet_on | (refine ⟨_, fun _ _ => rfl, ?_⟩; go_big_quiet_on))
            first | go_big_quiet_skip | (go_big_quiet_want; go_big_quiet_op; refine ⟨_, fun W hW => qcall hW (HI1 W).out, ?_⟩; go_big_quiet_on)
            first | go_big_quiet_skip | (go_big_quiet_want; refine ⟨.agg #[.int .i64 p, .int .i64 b, .int .i64 d, .int .i64 s], fun W hW => (by have y0 := (hW.cell (p := ⟨u2.heap.size, 0, none⟩) lX).trans X0; have y1 := (hW.cell (p := ⟨u2.heap.size, 1, none⟩) lX).trans X1; have y2 := (hW.cell (p := ⟨u2.heap.size, 2, none⟩) lX).trans X2; have y3 := (hW.cell (p := ⟨u2.heap.size, 3, none⟩) lX).trans X3; simp [Oper.quietAt, Oper.quietUpon, go_sem, y0, y1, y2, y3]), ?_⟩; simp only [Act.put, List.setIfInBounds_toArray, List.set_cons_zero, List.set_cons_succ]; go_big_quiet_on)
            first | go_big_quiet_skip | (go_big_quiet_want; go_big_quiet_op; first | go_big_quiet_on | (refine ⟨_, fun _ _ => rfl, ?_⟩; go_big_quiet_on))
            first | go_big_quiet_skip | (go_big_quiet_want; go_big_quiet_op; first | go_big_quiet_on | (refine ⟨_, fun _ _ => rfl, ?_⟩; go_big_quiet_on))
            go_big_quiet_want; go_big_quiet_op; first | go_big_quiet_on | (refine ⟨_, fun _ _ => rfl, ?_⟩; go_big_quiet_on)
            go_big_quiet_want; go_big_quiet_op; first | go_big_quiet_on | (refine ⟨_, fun _ _ => rfl, ?_⟩; go_big_quiet_on)
            first | go_big_quiet_skip | (go_big_quiet_want; go_big_quiet_op; first | go_big_quiet_on | (refine ⟨_, fun _ _ => rfl, ?_⟩; go_big_quiet_on))
            first | go_big_quiet_skip | (go_big_quiet_want; refine ⟨.int .i64 yc, fun W hW => (by have y4 := (hW.cell (p := ⟨u4.heap.size, 4, none⟩) lY).trans Y4; simp [Oper.quietAt, Oper.quietUpon, go_sem, y4]), ?_⟩; simp only [Act.put, List.setIfInBounds_toArray, List.set_cons_zero, List.set_cons_succ]; go_big_quiet_on)
            first | go_big_quiet_skip | (go_big_quiet_want; go_big_quiet_op; first | go_big_quiet_on | (refine ⟨_, fun _ _ => rfl, ?_⟩; go_big_quiet_on))
            first | go_big_quiet_skip | (go_big_quiet_want; go_big_quiet_op; first | go_big_quiet_on | (refine ⟨_, fun _ _ => rfl, ?_⟩; go_big_quiet_on))
            first | go_big_quiet_skip | (go_big_quiet_want; go_big_quiet_op; first | go_big_quiet_on | (refine ⟨_, fun _ _ => rfl, ?_⟩; go_big_quiet_on))
            first | go_big_quiet_skip | (go_big_quiet_want; refine ⟨.agg #[.int .i64 ya, .int .i64 yb, .int .i64 yd, .int .i64 ys], fun W hW => (by have y0 := (hW.cell (p := ⟨u4.heap.size, 0, none⟩) lY).trans Y0; have y1 := (hW.cell (p := ⟨u4.heap.size, 1, none⟩) lY).trans Y1; have y2 := (hW.cell (p := ⟨u4.heap.size, 2, none⟩) lY).trans Y2; have y3 := (hW.cell (p := ⟨u4.heap.size, 3, none⟩) lY).trans Y3; simp [Oper.quietAt, Oper.quietUpon, go_sem, y0, y1, y2, y3]), ?_⟩; simp only [Act.put, List.setIfInBounds_toArray, List.set_cons_zero, List.set_cons_succ]; go_big_quiet_on)
            first | go_big_quiet_skip | (go_big_quiet_want; go_big_quiet_op; refine ⟨_, fun W hW => qcall hW (HI2 W).out, ?_⟩; go_big_quiet_on)
            first | go_big_quiet_skip | (go_big_quiet_want; go_big_quiet_op; first | go_big_quiet_on | (refine ⟨_, fun _ _ => rfl, ?_⟩; go_big_quiet_on))
            first | go_big_quiet_skip | (go_big_quiet_want; go_big_quiet_op; first | go_big_quiet_on | (refine ⟨_, fun _ _ => rfl, ?_⟩; go_big_quiet_on))
            first | go_big_quiet_skip | (go_big_quiet_want; go_big_quiet_op; first | go_big_quiet_on | (refine ⟨_, fun _ _ => rfl, ?_⟩; go_big_quiet_on))
            go_big_quiet_want; go_big_quiet_op; first | go_big_quiet_on | (refine ⟨_, fun _ _ => rfl, ?_⟩; go_big_quiet_on)
            go_big_quiet_want; go_big_quiet_op; first | go_big_quiet_on | (refine ⟨_, fun _ _ => rfl, ?_⟩; go_big_quiet_on)
            first | go_big_quiet_skip | (go_big_quiet_want; go_big_quiet_op; first | go_big_quiet_on | (refine ⟨_, fun _ _ => rfl, ?_⟩; go_big_quiet_on))
            first | go_big_quiet_skip | (go_big_quiet_want; go_big_quiet_op; first | go_big_quiet_on | (refine ⟨_, fun _ _ => rfl, ?_⟩; go_big_quiet_on))
            first | go_big_quiet_skip | (go_big_quiet_want; go_big_quiet_op; first | go_big_quiet_on | (refine ⟨_, fun _ _ => rfl, ?_⟩; go_big_quiet_on))
            first | go_big_quiet_skip | (go_big_quiet_want; go_big_quiet_op; first | go_big_quiet_on | (refine ⟨_, fun _ _ => rfl, ?_⟩; go_big_quiet_on))
            first | go_big_quiet_skip | (go_big_quiet_want; go_big_quiet_op; refine ⟨_, fun W hW => qcall hW (HI3 W).out, ?_⟩; go_big_quiet_on)
            first | go_big_quiet_skip | (go_big_quiet_want; refine ⟨.agg #[.int .i64 cn, .string cs], fun W hW => (by have y0 := (hW.cell (p := ⟨u5.heap.size, 0, none⟩) lC).trans C0; have y1 := (hW.cell (p := ⟨u5.heap.size, 1, none⟩) lC).trans C1; simp [Oper.quietAt, Oper.quietUpon, go_sem, y0, y1]), ?_⟩; simp only [Act.put, List.setIfInBounds_toArray, List.set_cons_zero, List.set_cons_succ]; go_big_quiet_on)
            first | go_big_quiet_skip | (go_big_quiet_want; go_big_quiet_op; first | go_big_quiet_on | (refine ⟨_, fun _ _ => rfl, ?_⟩; go_big_quiet_on))
            first | go_big_quiet_skip | (go_big_quiet_want; go_big_quiet_op; first | go_big_quiet_on | (refine ⟨_, fun _ _ => rfl, ?_⟩; go_big_quiet_on))
            first | go_big_quiet_skip | (go_big_quiet_want; go_big_quiet_op; first | go_big_quiet_on | (refine ⟨_, fun _ _ => rfl, ?_⟩; go_big_quiet_on))
            go_big_quiet_want; go_big_quiet_op; first | go_big_quiet_on | (refine ⟨_, fun _ _ => rfl, ?_⟩; go_big_quiet_on)
            go_big_quiet_want; go_big_quiet_op; first | go_big_quiet_on | (refine ⟨_, fun _ _ => rfl, ?_⟩; go_big_quiet_on)
            first | go_big_quiet_skip | (go_big_quiet_want; go_big_quiet_op; first | go_big_quiet_on | (refine ⟨_, fun _ _ => rfl, ?_⟩; go_big_quiet_on))
            first | go_big_quiet_skip | (go_big_quiet_want; refine ⟨.int .i64 zc, fun W hW => (by have y2 := (hW.cell (p := ⟨u8.heap.size, 2, none⟩) lZ).trans Z2; simp [Oper.quietAt, Oper.quietUpon, go_sem, y2]), ?_⟩; simp only [Act.put, List.setIfInBounds_toArray, List.set_cons_zero, List.set_cons_succ]; go_big_quiet_on)
            first | go_big_quiet_skip | (go_big_quiet_want; go_big_quiet_op; first | go_big_quiet_on | (refine ⟨_, fun _ _ => rfl, ?_⟩; go_big_quiet_on))
            first | go_big_quiet_skip | (go_big_quiet_want; go_big_quiet_op; first | go_big_quiet_on | (refine ⟨_, fun _ _ => rfl, ?_⟩; go_big_quiet_on))
            first | go_big_quiet_skip | (go_big_quiet_want; go_big_quiet_op; first | go_big_quiet_on | (refine ⟨_, fun _ _ => rfl, ?_⟩; go_big_quiet_on))
            first | go_big_quiet_skip | (go_big_quiet_want; refine ⟨.agg #[.int .i64 zn, .string zs], fun W hW => (by have y0 := (hW.cell (p := ⟨u8.heap.size, 0, none⟩) lZ).trans Z0; have y1 := (hW.cell (p := ⟨u8.heap.size, 1, none⟩) lZ).trans Z1; simp [Oper.quietAt, Oper.quietUpon, go_sem, y0, y1]), ?_⟩; simp only [Act.put, List.setIfInBounds_toArray, List.set_cons_zero, List.set_cons_succ]; go_big_quiet_on)
            first | go_big_quiet_skip | (go_big_quiet_want; go_big_quiet_op; refine ⟨_, fun W hW => qcall hW (HI4 W).out, ?_⟩; go_big_quiet_on)
            first | go_big_quiet_skip | (go_big_quiet_want; go_big_quiet_op; first | go_big_quiet_on | (refine ⟨_, fun _ _ => rfl, ?_⟩; go_big_quiet_on))
            first | go_big_quiet_skip | (go_big_quiet_want; go_big_quiet_op; first | go_big_quiet_on | (refine ⟨_, fun _ _ => rfl, ?_⟩; go_big_quiet_on))
            first | go_big_quiet_skip | (go_big_quiet_want; go_big_quiet_op; first | go_big_quiet_on | (refine ⟨_, fun _ _ => rfl, ?_⟩; go_big_quiet_on))
            go_big_quiet_want; go_big_quiet_op; first | go_big_quiet_on | (refine ⟨_, fun _ _ => rfl, ?_⟩; go_big_quiet_on)
            refine wpQuiet_nil ?_
            intro V2 hV2
            clear ck dk cy dy cz dz
            go_wp2_with fail
            go_meet
            exact ⟨rfl, hV2⟩
        · have HI3 := fun W => Lib.hid (implCanRead_any ⟨(tx :: ts).toArray⟩ W HTS.out)
          rw [HM3.out (by simp)] at HI3
          by_cases cz : zc = 0
          · obtain ⟨z1, z2, z3⟩ := HM4.out cz
            have HI4 := fun W => Lib.hid (implCanBytes_any zn zs W (by omega) (by omega) (Nat.le_trans z3 HUM.out))
            rw [z1] at HI4
            have dz : (zc == 0) = true := beq_iff_eq.2 cz
            clear z1 z2 z3
            refine wp_region_quiet (C := fun W => Below U.heap.size U W) (by kernel_rfl) (by kernel_rfl) hV.drew ?_
            dsimp only
            go_big_quiet_want; go_big_quiet_op; first | go_big_quiet_on | (refine ⟨_, fun _ _ => rfl, ?_⟩; go_big_quiet_on)
            go_big_quiet_want; go_big_quiet_op; first | go_big_quiet_on | (refine ⟨_, fun _ _ => rfl, ?_⟩; go_big_quiet_on)
            go_big_quiet_want; go_big_quiet_op; first | go_big_quiet_on | (refine ⟨_, fun _ _ => rfl, ?_⟩; go_big_quiet_on)
            first | go_big_quiet_skip | (go_big_quiet_want; go_big_quiet_op; first | go_big_quiet_on | (refine ⟨_, fun _ _ => rfl, ?_⟩; go_big_quiet_on))
            first | go_big_quiet_skip | (go_big_quiet_want; go_big_quiet_op; refine ⟨_, fun W hW => qcall hW (HI1 W).out, ?_⟩; go_big_quiet_on)
            first | go_big_quiet_skip | (go_big_quiet_want; refine ⟨.agg #[.int .i64 p, .int .i64 b, .int .i64 d, .int .i64 s], fun W hW => (by have y0 := (hW.cell (p := ⟨u2.heap.size, 0, none⟩) lX).trans X0; have y1 := (hW.cell (p := ⟨u2.heap.size, 1, none⟩) lX).trans X1; have y2 := (hW.cell (p := ⟨u2.heap.size, 2, none⟩) lX).trans X2; have y3 := (hW.cell (p := ⟨u2.heap.size, 3, none⟩) lX).trans X3; simp [Oper.quietAt, Oper.quietUpon, go_sem, y0, y1, y2, y3]), ?_⟩; simp only [Act.put, List.setIfInBounds_toArray, List.set_cons_zero, List.set_cons_succ]; go_big_quiet_on)
            first | go_big_quiet_skip | (go_big_quiet_want; go_big_quiet_op; first | go_big_quiet_on | (refine ⟨_, fun _ _ => rfl, ?_⟩; go_big_quiet_on))
            first | go_big_quiet_skip | (go_big_quiet_want; go_big_quiet_op; first | go_big_quiet_on | (refine ⟨_, fun _ _ => rfl, ?_⟩; go_big_quiet_on))
            go_big_quiet_want; go_big_quiet_op; first | go_big_quiet_on | (refine ⟨_, fun _ _ => rfl, ?_⟩; go_big_quiet_on)
            go_big_quiet_want; go_big_quiet_op; first | go_big_quiet_on | (refine ⟨_, fun _ _ => rfl, ?_⟩; go_big_quiet_on)
            first | go_big_quiet_skip | (go_big_quiet_want; go_big_quiet_op; first | go_big_quiet_on | (refine ⟨_, fun _ _ => rfl, ?_⟩; go_big_quiet_on))
            first | go_big_quiet_skip | (go_big_quiet_want; refine ⟨.int .i64 yc, fun W hW => (by have y4 := (hW.cell (p := ⟨u4.heap.size, 4, none⟩) lY).trans Y4; simp [Oper.quietAt, Oper.quietUpon, go_sem, y4]), ?_⟩; simp only [Act.put, List.setIfInBounds_toArray, List.set_cons_zero, List.set_cons_succ]; go_big_quiet_on)
            first | go_big_quiet_skip | (go_big_quiet_want; go_big_quiet_op; first | go_big_quiet_on | (refine ⟨_, fun _ _ => rfl, ?_⟩; go_big_quiet_on))
            first | go_big_quiet_skip | (go_big_quiet_want; go_big_quiet_op; first | go_big_quiet_on | (refine ⟨_, fun _ _ => rfl, ?_⟩; go_big_quiet_on))
            first | go_big_quiet_skip | (go_big_quiet_want; go_big_quiet_op; first | go_big_quiet_on | (refine ⟨_, fun _ _ => rfl, ?_⟩; go_big_quiet_on))
            first | go_big_quiet_skip | (go_big_quiet_want; refine ⟨.agg #[.int .i64 ya, .int .i64 yb, .int .i64 yd, .int .i64 ys], fun W hW => (by have y0 := (hW.cell (p := ⟨u4.heap.size, 0, none⟩) lY).trans Y0; have y1 := (hW.cell (p := ⟨u4.heap.size, 1, none⟩) lY).trans Y1; have y2 := (hW.cell (p := ⟨u4.heap.size, 2, none⟩) lY).trans Y2; have y3 := (hW.cell (p := ⟨u4.heap.size, 3, none⟩) lY).trans Y3; simp [Oper.quietAt, Oper.quietUpon, go_sem, y0, y1, y2, y3]), ?_⟩; simp only [Act.put, List.setIfInBounds_toArray, List.set_cons_zero, List.set_cons_succ]; go_big_quiet_on)
            first | go_big_quiet_skip | (go_big_quiet_want; go_big_quiet_op; refine ⟨_, fun W hW => qcall hW (HI2 W).out, ?_⟩; go_big_quiet_on)
            first | go_big_quiet_skip | (go_big_quiet_want; go_big_quiet_op; first | go_big_quiet_on | (refine ⟨_, fun _ _ => rfl, ?_⟩; go_big_quiet_on))
            first | go_big_quiet_skip | (go_big_quiet_want; go_big_quiet_op; first | go_big_quiet_on | (refine ⟨_, fun _ _ => rfl, ?_⟩; go_big_quiet_on))
            first | go_big_quiet_skip | (go_big_quiet_want; go_big_quiet_op; first | go_big_quiet_on | (refine ⟨_, fun _ _ => rfl, ?_⟩; go_big_quiet_on))
            go_big_quiet_want; go_big_quiet_op; first | go_big_quiet_on | (refine ⟨_, fun _ _ => rfl, ?_⟩; go_big_quiet_on)
            go_big_quiet_want; go_big_quiet_op; first | go_big_quiet_on | (refine ⟨_, fun _ _ => rfl, ?_⟩; go_big_quiet_on)
            first | go_big_quiet_skip | (go_big_quiet_want; go_big_quiet_op; first | go_big_quiet_on | (refine ⟨_, fun _ _ => rfl, ?_⟩; go_big_quiet_on))
            first | go_big_quiet_skip | (go_big_quiet_want; go_big_quiet_op; first | go_big_quiet_on | (refine ⟨_, fun _ _ => rfl, ?_⟩; go_big_quiet_on))
            first | go_big_quiet_skip | (go_big_quiet_want; go_big_quiet_op; first | go_big_quiet_on | (refine ⟨_, fun _ _ => rfl, ?_⟩; go_big_quiet_on))
            first | go_big_quiet_skip | (go_big_quiet_want; go_big_quiet_op; first | go_big_quiet_on | (refine ⟨_, fun _ _ => rfl, ?_⟩; go_big_quiet_on))
            first | go_big_quiet_skip | (go_big_quiet_want; go_big_quiet_op; refine ⟨_, fun W hW => qcall hW (HI3 W).out, ?_⟩; go_big_quiet_on)
            first | go_big_quiet_skip | (go_big_quiet_want; refine ⟨.agg #[.int .i64 cn, .string cs], fun W hW => (by have y0 := (hW.cell (p := ⟨u5.heap.size, 0, none⟩) lC).trans C0; have y1 := (hW.cell (p := ⟨u5.heap.size, 1, none⟩) lC).trans C1; simp [Oper.quietAt, Oper.quietUpon, go_sem, y0, y1]), ?_⟩; simp only [Act.put, List.setIfInBounds_toArray, List.set_cons_zero, List.set_cons_succ]; go_big_quiet_on)
            first | go_big_quiet_skip | (go_big_quiet_want; go_big_quiet_op; first | go_big_quiet_on | (refine ⟨_, fun _ _ => rfl, ?_⟩; go_big_quiet_on))
            first | go_big_quiet_skip | (go_big_quiet_want; go_big_quiet_op; first | go_big_quiet_on | (refine ⟨_, fun _ _ => rfl, ?_⟩; go_big_quiet_on))
            first | go_big_quiet_skip | (go_big_quiet_want; go_big_quiet_op; first | go_big_quiet_on | (refine ⟨_, fun _ _ => rfl, ?_⟩; go_big_quiet_on))
            go_big_quiet_want; go_big_quiet_op; first | go_big_quiet_on | (refine ⟨_, fun _ _ => rfl, ?_⟩; go_big_quiet_on)
            go_big_quiet_want; go_big_quiet_op; first | go_big_quiet_on | (refine ⟨_, fun _ _ => rfl, ?_⟩; go_big_quiet_on)
            first | go_big_quiet_skip | (go_big_quiet_want; go_big_quiet_op; first | go_big_quiet_on | (refine ⟨_, fun _ _ => rfl, ?_⟩; go_big_quiet_on))
            first | go_big_quiet_skip | (go_big_quiet_want; refine ⟨.int .i64 zc, fun W hW => (by have y2 := (hW.cell (p := ⟨u8.heap.size, 2, none⟩) lZ).trans Z2; simp [Oper.quietAt, Oper.quietUpon, go_sem, y2]), ?_⟩; simp only [Act.put, List.setIfInBounds_toArray, List.set_cons_zero, List.set_cons_succ]; go_big_quiet_on)
            first | go_big_quiet_skip | (go_big_quiet_want; go_big_quiet_op; first | go_big_quiet_on | (refine ⟨_, fun _ _ => rfl, ?_⟩; go_big_quiet_on))
            first | go_big_quiet_skip | (go_big_quiet_want; go_big_quiet_op; first | go_big_quiet_on | (refine ⟨_, fun _ _ => rfl, ?_⟩; go_big_quiet_on))
            first | go_big_quiet_skip | (go_big_quiet_want; go_big_quiet_op; first | go_big_quiet_on | (refine ⟨_, fun _ _ => rfl, ?_⟩; go_big_quiet_on))
            first | go_big_quiet_skip | (go_big_quiet_want; refine ⟨.agg #[.int .i64 zn, .string zs], fun W hW => (by have y0 := (hW.cell (p := ⟨u8.heap.size, 0, none⟩) lZ).trans Z0; have y1 := (hW.cell (p := ⟨u8.heap.size, 1, none⟩) lZ).trans Z1; simp [Oper.quietAt, Oper.quietUpon, go_sem, y0, y1]), ?_⟩; simp only [Act.put, List.setIfInBounds_toArray, List.set_cons_zero, List.set_cons_succ]; go_big_quiet_on)
            first | go_big_quiet_skip | (go_big_quiet_want; go_big_quiet_op; refine ⟨_, fun W hW => qcall hW (HI4 W).out, ?_⟩; go_big_quiet_on)
            first | go_big_quiet_skip | (go_big_quiet_want; go_big_quiet_op; first | go_big_quiet_on | (refine ⟨_, fun _ _ => rfl, ?_⟩; go_big_quiet_on))
            first | go_big_quiet_skip | (go_big_quiet_want; go_big_quiet_op; first | go_big_quiet_on | (refine ⟨_, fun _ _ => rfl, ?_⟩; go_big_quiet_on))
            first | go_big_quiet_skip | (go_big_quiet_want; go_big_quiet_op; first | go_big_quiet_on | (refine ⟨_, fun _ _ => rfl, ?_⟩; go_big_quiet_on))
            go_big_quiet_want; go_big_quiet_op; first | go_big_quiet_on | (refine ⟨_, fun _ _ => rfl, ?_⟩; go_big_quiet_on)
            refine wpQuiet_nil ?_
            intro V2 hV2
            clear ck dk cy dy cz dz
            go_wp2_with fail
            go_meet
            exact ⟨rfl, hV2⟩
          · have dz : (zc == 0) = false := beq_eq_false_iff_ne.2 cz
            refine wp_region_quiet (C := fun W => Below U.heap.size U W) (by kernel_rfl) (by kernel_rfl) hV.drew ?_
            dsimp only
            go_big_quiet_want; go_big_quiet_op; first | go_big_quiet_on | (refine ⟨_, fun _ _ => rfl, ?_⟩; go_big_quiet_on)
            go_big_quiet_want; go_big_quiet_op; first | go_big_quiet_on | (refine ⟨_, fun _ _ => rfl, ?_⟩; go_big_quiet_on)
            go_big_quiet_want; go_big_quiet_op; first | go_big_quiet_on | (refine ⟨_, fun _ _ => rfl, ?_⟩; go_big_quiet_on)
            first | go_big_quiet_skip | (go_big_quiet_want; go_big_quiet_op; first | go_big_quiet_on | (refine ⟨_, fun _ _ => rfl, ?_⟩; go_big_quiet_on))
            first | go_big_quiet_skip | (go_big_quiet_want; go_big_quiet_op; refine ⟨_, fun W hW => qcall hW (HI1 W).out, ?_⟩; go_big_quiet_on)
            first | go_big_quiet_skip | (go_big_quiet_want; refine ⟨.agg #[.int .i64 p, .int .i64 b, .int .i64 d, .int .i64 s], fun W hW => (by have y0 := (hW.cell (p := ⟨u2.heap.size, 0, none⟩) lX).trans X0; have y1 := (hW.cell (p := ⟨u2.heap.size, 1, none⟩) lX).trans X1; have y2 := (hW.cell (p := ⟨u2.heap.size, 2, none⟩) lX).trans X2; have y3 := (hW.cell (p := ⟨u2.heap.size, 3, none⟩) lX).trans X3; simp [Oper.quietAt, Oper.quietUpon, go_sem, y0, y1, y2, y3]), ?_⟩; simp only [Act.put, List.setIfInBounds_toArray, List.set_cons_zero, List.set_cons_succ]; go_big_quiet_on)
            first | go_big_quiet_skip | (go_big_quiet_want; go_big_quiet_op; first | go_big_quiet_on | (refine ⟨_, fun _ _ => rfl, ?_⟩; go_big_quiet_on))
            first | go_big_quiet_skip | (go_big_quiet_want; go_big_quiet_op; first | go_big_quiet_on | (refine ⟨_, fun _ _ => rfl, ?_⟩; go_big_quiet_on))
            go_big_quiet_want; go_big_quiet_op; first | go_big_quiet_on | (refine ⟨_, fun _ _ => rfl, ?_⟩; go_big_quiet_on)
            go_big_quiet_want; go_big_quiet_op; first | go_big_quiet_on | (refine ⟨_, fun _ _ => rfl, ?_⟩; go_big_quiet_on)
            first | go_big_quiet_skip | (go_big_quiet_want; go_big_quiet_op; first | go_big_quiet_on | (refine ⟨_, fun _ _ => rfl, ?_⟩; go_big_quiet_on))
            first | go_big_quiet_skip | (go_big_quiet_want; refine ⟨.int .i64 yc, fun W hW => (by have y4 := (hW.cell (p := ⟨u4.heap.size, 4, none⟩) lY).trans Y4; simp [Oper.quietAt, Oper.quietUpon, go_sem, y4]), ?_⟩; simp only [Act.put, List.setIfInBounds_toArray, List.set_cons_zero, List.set_cons_succ]; go_big_quiet_on)
            first | go_big_quiet_skip | (go_big_quiet_want; go_big_quiet_op; first | go_big_quiet_on | (refine ⟨_, fun _ _ => rfl, ?_⟩; go_big_quiet_on))
            first | go_big_quiet_skip | (go_big_quiet_want; go_big_quiet_op; first | go_big_quiet_on | (refine ⟨_, fun _ _ => rfl, ?_⟩; go_big_quiet_on))
            first | go_big_quiet_skip | (go_big_quiet_want; go_big_quiet_op; first | go_big_quiet_on | (refine ⟨_, fun _ _ => rfl, ?_⟩; go_big_quiet_on))
            first | go_big_quiet_skip | (go_big_quiet_want; refine ⟨.agg #[.int .i64 ya, .int .i64 yb, .int .i64 yd, .int .i64 ys], fun W hW => (by have y0 := (hW.cell (p := ⟨u4.heap.size, 0, none⟩) lY).trans Y0; have y1 := (hW.cell (p := ⟨u4.heap.size, 1, none⟩) lY).trans Y1; have y2 := (hW.cell (p := ⟨u4.heap.size, 2, none⟩) lY).trans Y2; have y3 := (hW.cell (p := ⟨u4.heap.size, 3, none⟩) lY).trans Y3; simp [Oper.quietAt, Oper.quietUpon, go_sem, y0, y1, y2, y3]), ?_⟩; simp only [Act.put, List.setIfInBounds_toArray, List.set_cons_zero, List.set_cons_succ]; go_big_quiet_on)
            first | go_big_quiet_skip | (go_big_quiet_want; go_big_quiet_op; refine ⟨_, fun W hW => qcall hW (HI2 W).out, ?_⟩; go_big_quiet_on)
            first | go_big_quiet_skip | (go_big_quiet_want; go_big_quiet_op; first | go_big_quiet_on | (refine ⟨_, fun _ _ => rfl, ?_⟩; go_big_quiet_on))
            first | go_big_quiet_skip | (go_big_quiet_want; go_big_quiet_op; first | go_big_quiet_on | (refine ⟨_, fun _ _ => rfl, ?_⟩; go_big_quiet_on))
            first | go_big_quiet_skip | (go_big_quiet_want; go_big_quiet_op; first | go_big_quiet_on | (refine ⟨_, fun _ _ => rfl, ?_⟩; go_big_quiet_on))
            go_big_quiet_want; go_big_quiet_op; first | go_big_quiet_on | (refine ⟨_, fun _ _ => rfl, ?_⟩; go_big_quiet_on)
            go_big_quiet_want; go_big_quiet_op; first | go_big_quiet_on | (refine ⟨_, fun _ _ => rfl, ?_⟩; go_big_quiet_on)
            first | go_big_quiet_skip | (go_big_quiet_want; go_big_quiet_op; first | go_big_quiet_on | (refine ⟨_, fun _ _ => rfl, ?_⟩; go_big_quiet_on))
            first | go_big_quiet_skip | (go_big_quiet_want; go_big_quiet_op; first | go_big_quiet_on | (refine ⟨_, fun _ _ => rfl, ?_⟩; go_big_quiet_on))
            first | go_big_quiet_skip | (go_big_quiet_want; go_big_quiet_op; first | go_big_quiet_on | (refine ⟨_, fun _ _ => rfl, ?_⟩; go_big_quiet_on))
            first | go_big_quiet_skip | (go_big_quiet_want; go_big_quiet_op; first | go_big_quiet_on | (refine ⟨_, fun _ _ => rfl, ?_⟩; go_big_quiet_on))
            first | go_big_quiet_skip | (go_big_quiet_want; go_big_quiet_op; refine ⟨_, fun W hW => qcall hW (HI3 W).out, ?_⟩; go_big_quiet_on)
            first | go_big_quiet_skip | (go_big_quiet_want; refine ⟨.agg #[.int .i64 cn, .string cs], fun W hW => (by have y0 := (hW.cell (p := ⟨u5.heap.size, 0, none⟩) lC).trans C0; have y1 := (hW.cell (p := ⟨u5.heap.size, 1, none⟩) lC).trans C1; simp [Oper.quietAt, Oper.quietUpon, go_sem, y0, y1]), ?_⟩; simp only [Act.put, List.setIfInBounds_toArray, List.set_cons_zero, List.set_cons_succ]; go_big_quiet_on)
            first | go_big_quiet_skip | (go_big_quiet_want; go_big_quiet_op; first | go_big_quiet_on | (refine ⟨_, fun _ _ => rfl, ?_⟩; go_big_quiet_on))
            first | go_big_quiet_skip | (go_big_quiet_want; go_big_quiet_op; first | go_big_quiet_on | (refine ⟨_, fun _ _ => rfl, ?_⟩; go_big_quiet_on))
            first | go_big_quiet_skip | (go_big_quiet_want; go_big_quiet_op; first | go_big_quiet_on | (refine ⟨_, fun _ _ => rfl, ?_⟩; go_big_quiet_on))
            go_big_quiet_want; go_big_quiet_op; first | go_big_quiet_on | (refine ⟨_, fun _ _ => rfl, ?_⟩; go_big_quiet_on)
            go_big_quiet_want; go_big_quiet_op; first | go_big_quiet_on | (refine ⟨_, fun _ _ => rfl, ?_⟩; go_big_quiet_on)
            first | go_big_quiet_skip | (go_big_quiet_want; go_big_quiet_op; first | go_big_quiet_on | (refine ⟨_, fun _ _ => rfl, ?_⟩; go_big_quiet_on))
            first | go_big_quiet_skip | (go_big_quiet_want; refine ⟨.int .i64 zc, fun W hW => (by have y2 := (hW.cell (p := ⟨u8.heap.size, 2, none⟩) lZ).trans Z2; simp [Oper.quietAt, Oper.quietUpon, go_sem, y2]), ?_⟩; simp only [Act.put, List.setIfInBounds_toArray, List.set_cons_zero, List.set_cons_succ]; go_big_quiet_on)
            first | go_big_quiet_skip | (go_big_quiet_want; go_big_quiet_op; first | go_big_quiet_on | (refine ⟨_, fun _ _ => rfl, ?_⟩; go_big_quiet_on))
            first | go_big_quiet_skip | (go_big_quiet_want; go_big_quiet_op; first | go_big_quiet_on | (refine ⟨_, fun _ _ => rfl, ?_⟩; go_big_quiet_on))
            first | go_big_quiet_skip | (go_big_quiet_want; go_big_quiet_op; first | go_big_quiet_on | (refine ⟨_, fun _ _ => rfl, ?_⟩; go_big_quiet_on))
            first | go_big_quiet_skip | (go_big_quiet_want; refine ⟨.agg #[.int .i64 zn, .string zs], fun W hW => (by have y0 := (hW.cell (p := ⟨u8.heap.size, 0, none⟩) lZ).trans Z0; have y1 := (hW.cell (p := ⟨u8.heap.size, 1, none⟩) lZ).trans Z1; simp [Oper.quietAt, Oper.quietUpon, go_sem, y0, y1]), ?_⟩; simp only [Act.put, List.setIfInBounds_toArray, List.set_cons_zero, List.set_cons_succ]; go_big_quiet_on)
            first | go_big_quiet_skip | (go_big_quiet_want; go_big_quiet_op; refine ⟨_, fun W hW => qcall hW (HI4 W).out, ?_⟩; go_big_quiet_on)
            first | go_big_quiet_skip | (go_big_quiet_want; go_big_quiet_op; first | go_big_quiet_on | (refine ⟨_, fun _ _ => rfl, ?_⟩; go_big_quiet_on))
            first | go_big_quiet_skip | (go_big_quiet_want; go_big_quiet_op; first | go_big_quiet_on | (refine ⟨_, fun _ _ => rfl, ?_⟩; go_big_quiet_on))
            first | go_big_quiet_skip | (go_big_quiet_want; go_big_quiet_op; first | go_big_quiet_on | (refine ⟨_, fun _ _ => rfl, ?_⟩; go_big_quiet_on))
            go_big_quiet_want; go_big_quiet_op; first | go_big_quiet_on | (refine ⟨_, fun _ _ => rfl, ?_⟩; go_big_quiet_on)
            refine wpQuiet_nil ?_
            intro V2 hV2
            clear ck dk cy dy cz dz
            go_wp2_with fail
            go_meet
            exact ⟨rfl, hV2⟩
      · have dy : (yc == 0) = false := beq_eq_false_iff_ne.2 cy
        rcases tb with _ | ⟨tx, ts⟩
        · by_cases cz : zc = 0
          · obtain ⟨z1, z2, z3⟩ := HM4.out cz
            have HI4 := fun W => Lib.hid (implCanBytes_any zn zs W (by omega) (by omega) (Nat.le_trans z3 HUM.out))
            rw [z1] at HI4
            have dz : (zc == 0) = true := beq_iff_eq.2 cz
            clear z1 z2 z3
            refine wp_region_quiet (C := fun W => Below U.heap.size U W) (by kernel_rfl) (by kernel_rfl) hV.drew ?_
            dsimp only
            go_big_quiet_want; go_big_quiet_op; first | go_big_quiet_on | (refine ⟨_, fun _ _ => rfl, ?_⟩; go_big_quiet_on)
            go_big_quiet_want; go_big_quiet_op; first | go_big_quiet_on | (refine ⟨_, fun _ _ => rfl, ?_⟩; go_big_quiet_on)
            go_big_quiet_want; go_big_quiet_op; first | go_big_quiet_on | (refine ⟨_, fun _ _ => rfl, ?_⟩; go_big_quiet_on)
            first | go_big_quiet_skip | (go_big_quiet_want; go_big_quiet_op; first | go_big_quiet_on | (refine ⟨_, fun _ _ => rfl, ?_⟩; go_big_quiet_on))
            first | go_big_quiet_skip | (go_big_quiet_want; go_big_quiet_op; refine ⟨_, fun W hW => qcall hW (HI1 W).out, ?_⟩; go_big_quiet_on)
            first | go_big_quiet_skip | (go_big_quiet_want; refine ⟨.agg #[.int .i64 p, .int .i64 b, .int .i64 d, .int .i64 s], fun W hW => (by have y0 := (hW.cell (p := ⟨u2.heap.size, 0, none⟩) lX).trans X0; have y1 := (hW.cell (p := ⟨u2.heap.size, 1, none⟩) lX).trans X1; have y2 := (hW.cell (p := ⟨u2.heap.size, 2, none⟩) lX).trans X2; have y3 := (hW.cell (p := ⟨u2.heap.size, 3, none⟩) lX).trans X3; simp [Oper.quietAt, Oper.quietUpon, go_sem, y0, y1, y2, y3]), ?_⟩; simp only [Act.put, List.setIfInBounds_toArray, List.set_cons_zero, List.set_cons_succ]; go_big_quiet_on)
            first | go_big_quiet_skip | (go_big_quiet_want; go_big_quiet_op; first | go_big_quiet_on | (refine ⟨_, fun _ _ => rfl, ?_⟩; go_big_quiet_on))
            first | go_big_quiet_skip | (go_big_quiet_want; go_big_quiet_op; first | go_big_quiet_on | (refine ⟨_, fun _ _ => rfl, ?_⟩; go_big_quiet_on))
            go_big_quiet_want; go_big_quiet_op; first | go_big_quiet_on | (refine ⟨_, fun _ _ => rfl, ?_⟩; go_big_quiet_on)
            go_big_quiet_want; go_big_quiet_op; first | go_big_quiet_on | (refine ⟨_, fun _ _ => rfl, ?_⟩; go_big_quiet_on)
            first | go_big_quiet_skip | (go_big_quiet_want; go_big_quiet_op; first | go_big_quiet_on | (refine ⟨_, fun _ _ => rfl, ?_⟩; go_big_quiet_on))
            first | go_big_quiet_skip | (go_big_quiet_want; refine ⟨.int .i64 yc, fun W hW => (by have y4 := (hW.cell (p := ⟨u4.heap.size, 4, none⟩) lY).trans Y4; simp [Oper.quietAt, Oper.quietUpon, go_sem, y4]), ?_⟩; simp only [Act.put, List.setIfInBounds_toArray, List.set_cons_zero, List.set_cons_succ]; go_big_quiet_on)
            first | go_big_quiet_skip | (go_big_quiet_want; go_big_quiet_op; first | go_big_quiet_on | (refine ⟨_, fun _ _ => rfl, ?_⟩; go_big_quiet_on))
            first | go_big_quiet_skip | (go_big_quiet_want; go_big_quiet_op; first | go_big_quiet_on | (refine ⟨_, fun _ _ => rfl, ?_⟩; go_big_quiet_on))
            first | go_big_quiet_skip | (go_big_quiet_want; go_big_quiet_op; first | go_big_quiet_on | (refine ⟨_, fun _ _ => rfl, ?_⟩; go_big_quiet_on))
            first | go_big_quiet_skip | (go_big_quiet_want; refine ⟨.agg #[.int .i64 ya, .int .i64 yb, .int .i64 yd, .int .i64 ys], fun W hW => (by have y0 := (hW.cell (p := ⟨u4.heap.size, 0, none⟩) lY).trans Y0; have y1 := (hW.cell (p := ⟨u4.heap.size, 1, none⟩) lY).trans Y1; have y2 := (hW.cell (p := ⟨u4.heap.size, 2, none⟩) lY).trans Y2; have y3 := (hW.cell (p := ⟨u4.heap.size, 3, none⟩) lY).trans Y3; simp [Oper.quietAt, Oper.quietUpon, go_sem, y0, y1, y2, y3]), ?_⟩; simp only [Act.put, List.setIfInBounds_toArray, List.set_cons_zero, List.set_cons_succ]; go_big_quiet_on)
            first | go_big_quiet_skip | (go_big_quiet_want; go_big_quiet_op; refine ⟨_, fun W hW => qcall hW (HI2 W).out, ?_⟩; go_big_quiet_on)
            first | go_big_quiet_skip | (go_big_quiet_want; go_big_quiet_op; first | go_big_quiet_on | (refine ⟨_, fun _ _ => rfl, ?_⟩; go_big_quiet_on))
            first | go_big_quiet_skip | (go_big_quiet_want; go_big_quiet_op; first | go_big_quiet_on | (refine ⟨_, fun _ _ => rfl, ?_⟩; go_big_quiet_on))
            first | go_big_quiet_skip | (go_big_quiet_want; go_big_quiet_op; first | go_big_quiet_on | (refine ⟨_, fun _ _ => rfl, ?_⟩; go_big_quiet_on))
            go_big_quiet_want; go_big_quiet_op; first | go_big_quiet_on | (refine ⟨_, fun _ _ => rfl, ?_⟩; go_big_quiet_on)
            go_big_quiet_want; go_big_quiet_op; first | go_big_quiet_on | (refine ⟨_, fun _ _ => rfl, ?_⟩; go_big_quiet_on)
            first | go_big_quiet_skip | (go_big_quiet_want; go_big_quiet_op; first | go_big_quiet_on | (refine ⟨_, fun _ _ => rfl, ?_⟩; go_big_quiet_on))
            first | go_big_quiet_skip | (go_big_quiet_want; go_big_quiet_op; first | go_big_quiet_on | (refine ⟨_, fun _ _ => rfl, ?_⟩; go_big_quiet_on))
            first | go_big_quiet_skip | (go_big_quiet_want; go_big_quiet_op; first | go_big_quiet_on | (refine ⟨_, fun _ _ => rfl, ?_⟩; go_big_quiet_on))
            first | go_big_quiet_skip | (go_big_quiet_want; go_big_quiet_op; first | go_big_quiet_on | (refine ⟨_, fun _ _ => rfl, ?_⟩; go_big_quiet_on))
            first | go_big_quiet_skip | (go_big_quiet_want; go_big_quiet_op; refine ⟨_, fun W hW => qcall hW (HI3 W).out, ?_⟩; go_big_quiet_on)
            first | go_big_quiet_skip | (go_big_quiet_want; refine ⟨.agg #[.int .i64 cn, .string cs], fun W hW => (by have y0 := (hW.cell (p := ⟨u5.heap.size, 0, none⟩) lC).trans C0; have y1 := (hW.cell (p := ⟨u5.heap.size, 1, none⟩) lC).trans C1; simp [Oper.quietAt, Oper.quietUpon, go_sem, y0, y1]), ?_⟩; simp only [Act.put, List.setIfInBounds_toArray, List.set_cons_zero, List.set_cons_succ]; go_big_quiet_on)
            first | go_big_quiet_skip | (go_big_quiet_want; go_big_quiet_op; first | go_big_quiet_on | (refine ⟨_, fun _ _ => rfl, ?_⟩; go_big_quiet_on))
            first | go_big_quiet_skip | (go_big_quiet_want; go_big_quiet_op; first | go_big_quiet_on | (refine ⟨_, fun _ _ => rfl, ?_⟩; go_big_quiet_on))
            first | go_big_quiet_skip | (go_big_quiet_want; go_big_quiet_op; first | go_big_quiet_on | (refine ⟨_, fun _ _ => rfl, ?_⟩; go_big_quiet_on))
            go_big_quiet_want; go_big_quiet_op; first | go_big_quiet_on | (refine ⟨_, fun _ _ => rfl, ?_⟩; go_big_quiet_on)
            go_big_quiet_want; go_big_quiet_op; first | go_big_quiet_on | (refine ⟨_, fun _ _ => rfl, ?_⟩; go_big_quiet_on)
            first | go_big_quiet_skip | (go_big_quiet_want; go_big_quiet_op; first | go_big_quiet_on | (refine ⟨_, fun _ _ => rfl, ?_⟩; go_big_quiet_on))
            first | go_big_quiet_skip | (go_big_quiet_want; refine ⟨.int .i64 zc, fun W hW => (by have y2 := (hW.cell (p := ⟨u8.heap.size, 2, none⟩) lZ).trans Z2; simp [Oper.quietAt, Oper.quietUpon, go_sem, y2]), ?_⟩; simp only [Act.put, List.setIfInBounds_toArray, List.set_cons_zero, List.set_cons_succ]; go_big_quiet_on)
            first | go_big_quiet_skip | (go_big_quiet_want; go_big_quiet_op; first | go_big_quiet_on | (refine ⟨_, fun _ _ => rfl, ?_⟩; go_big_quiet_on))
            first | go_big_quiet_skip | (go_big_quiet_want; go_big_quiet_op; first | go_big_quiet_on | (refine ⟨_, fun _ _ => rfl, ?_⟩; go_big_quiet_on))
            first | go_big_quiet_skip | (go_big_quiet_want; go_big_quiet_op; first | go_big_quiet_on | (refine ⟨_, fun _ _ => rfl, ?_⟩; go_big_quiet_on))
            first | go_big_quiet_skip | (go_big_quiet_want; refine ⟨.agg #[.int .i64 zn, .string zs], fun W hW => (by have y0 := (hW.cell (p := ⟨u8.heap.size, 0, none⟩) lZ).trans Z0; have y1 := (hW.cell (p := ⟨u8.heap.size, 1, none⟩) lZ).trans Z1; simp [Oper.quietAt, Oper.quietUpon, go_sem, y0, y1]), ?_⟩; simp only [Act.put, List.setIfInBounds_toArray, List.set_cons_zero, List.set_cons_succ]; go_big_quiet_on)
            first | go_big_quiet_skip | (go_big_quiet_want; go_big_quiet_op; refine ⟨_, fun W hW => qcall hW (HI4 W).out, ?_⟩; go_big_quiet_on)
            first | go_big_quiet_skip | (go_big_quiet_want; go_big_quiet_op; first | go_big_quiet_on | (refine ⟨_, fun _ _ => rfl, ?_⟩; go_big_quiet_on))
            first | go_big_quiet_skip | (go_big_quiet_want; go_big_quiet_op; first | go_big_quiet_on | (refine ⟨_, fun _ _ => rfl, ?_⟩; go_big_quiet_on))
            first | go_big_quiet_skip | (go_big_quiet_want; go_big_quiet_op; first | go_big_quiet_on | (refine ⟨_, fun _ _ => rfl, ?_⟩; go_big_quiet_on))
            go_big_quiet_want; go_big_quiet_op; first | go_big_quiet_on | (refine ⟨_, fun _ _ => rfl, ?_⟩; go_big_quiet_on)
            refine wpQuiet_nil ?_
            intro V2 hV2
            clear ck dk cy dy cz dz
            go_wp2_with fail
            go_meet
            exact ⟨rfl, hV2⟩
          · have dz : (zc == 0) = false := beq_eq_false_iff_ne.2 cz
            refine wp_region_quiet (C := fun W => Below U.heap.size U W) (by kernel_rfl) (by kernel_rfl) hV.drew ?_
            dsimp only
            go_big_quiet_want; go_big_quiet_op; first | go_big_quiet_on | (refine ⟨_, fun _ _ => rfl, ?_⟩; go_big_quiet_on)
            go_big_quiet_want; go_big_quiet_op; first | go_big_quiet_on | (refine ⟨_, fun _ _ => rfl, ?_⟩; go_big_quiet_on)
            go_big_quiet_want; go_big_quiet_op; first | go_big_quiet_on | (refine ⟨_, fun _ _ => rfl, ?_⟩; go_big_quiet_on)
            first | go_big_quiet_skip | (go_big_quiet_want; go_big_quiet_op; first | go_big_quiet_on | (refine ⟨_, fun _ _ => rfl, ?_⟩; go_big_quiet_on))
            first | go_big_quiet_skip | (go_big_quiet_want; go_big_quiet_op; refine ⟨_, fun W hW => qcall hW (HI1 W).out, ?_⟩; go_big_quiet_on)
            first | go_big_quiet_skip | (go_big_quiet_want; refine ⟨.agg #[.int .i64 p, .int .i64 b, .int .i64 d, .int .i64 s], fun W hW => (by have y0 := (hW.cell (p := ⟨u2.heap.size, 0, none⟩) lX).trans X0; have y1 := (hW.cell (p := ⟨u2.heap.size, 1, none⟩) lX).trans X1; have y2 := (hW.cell (p := ⟨u2.heap.size, 2, none⟩) lX).trans X2; have y3 := (hW.cell (p := ⟨u2.heap.size, 3, none⟩) lX).trans X3; simp [Oper.quietAt, Oper.quietUpon, go_sem, y0, y1, y2, y3]), ?_⟩; simp only [Act.put, List.setIfInBounds_toArray, List.set_cons_zero, List.set_cons_succ]; go_big_quiet_on)
            first | go_big_quiet_skip | (go_big_quiet_want; go_big_quiet_op; first | go_big_quiet_on | (refine ⟨_, fun _ _ => rfl, ?_⟩; go_big_quiet_on))
            first | go_big_quiet_skip | (go_big_quiet_want; go_big_quiet_op; first | go_big_quiet_on | (refine ⟨_, fun _ _ => rfl, ?_⟩; go_big_quiet_on))
            go_big_quiet_want; go_big_quiet_op; first | go_big_quiet_on | (refine ⟨_, fun _ _ => rfl, ?_⟩; go_big_quiet_on)
            go_big_quiet_want; go_big_quiet_op; first | go_big_quiet_on | (refine ⟨_, fun _ _ => rfl, ?_⟩; go_big_quiet_on)
            first | go_big_quiet_skip | (go_big_quiet_want; go_big_quiet_op; first | go_big_quiet_on | (refine ⟨_, fun _ _ => rfl, ?_⟩; go_big_quiet_on))
            first | go_big_quiet_skip | (go_big_quiet_want; refine ⟨.int .i64 yc, fun W hW => (by have y4 := (hW.cell (p := ⟨u4.heap.size, 4, none⟩) lY).trans Y4; simp [Oper.quietAt, Oper.quietUpon, go_sem, y4]), ?_⟩; simp only [Act.put, List.setIfInBounds_toArray, List.set_cons_zero, List.set_cons_succ]; go_big_quiet_on)
            first | go_big_quiet_skip | (go_big_quiet_want; go_big_quiet_op; first | go_big_quiet_on | (refine ⟨_, fun _ _ => rfl, ?_⟩; go_big_quiet_on))
            first | go_big_quiet_skip | (go_big_quiet_want; go_big_quiet_op; first | go_big_quiet_on | (refine ⟨_, fun _ _ => rfl, ?_⟩; go_big_quiet_on))
            first | go_big_quiet_skip | (go_big_quiet_want; go_big_quiet_op; first | go_big_quiet_on | (refine ⟨_, fun _ _ => rfl, ?_⟩; go_big_quiet_on))
            first | go_big_quiet_skip | (go_big_quiet_want; refine ⟨.agg #[.int .i64 ya, .int .i64 yb, .int .i64 yd, .int .i64 ys], fun W hW => (by have y0 := (hW.cell (p := ⟨u4.heap.size, 0, none⟩) lY).trans Y0; have y1 := (hW.cell (p := ⟨u4.heap.size, 1, none⟩) lY).trans Y1; have y2 := (hW.cell (p := ⟨u4.heap.size, 2, none⟩) lY).trans Y2; have y3 := (hW.cell (p := ⟨u4.heap.size, 3, none⟩) lY).trans Y3; simp [Oper.quietAt, Oper.quietUpon, go_sem, y0, y1, y2, y3]), ?_⟩; simp only [Act.put, List.setIfInBounds_toArray, List.set_cons_zero, List.set_cons_succ]; go_big_quiet_on)
            first | go_big_quiet_skip | (go_big_quiet_want; go_big_quiet_op; refine ⟨_, fun W hW => qcall hW (HI2 W).out, ?_⟩; go_big_quiet_on)
            first | go_big_quiet_skip | (go_big_quiet_want; go_big_quiet_op; first | go_big_quiet_on | (refine ⟨_, fun _ _ => rfl, ?_⟩; go_big_quiet_on))
            first | go_big_quiet_skip | (go_big_quiet_want; go_big_quiet_op; first | go_big_quiet_on | (refine ⟨_, fun _ _ => rfl, ?_⟩; go_big_quiet_on))
            first | go_big_quiet_skip | (go_big_quiet_want; go_big_quiet_op; first | go_big_quiet_on | (refine ⟨_, fun _ _ => rfl, ?_⟩; go_big_quiet_on))
            go_big_quiet_want; go_big_quiet_op; first | go_big_quiet_on | (refine ⟨_, fun _ _ => rfl, ?_⟩; go_big_quiet_on)
            go_big_quiet_want; go_big_quiet_op; first | go_big_quiet_on | (refine ⟨_, fun _ _ => rfl, ?_⟩; go_big_quiet_on)
            first | go_big_quiet_skip | (go_big_quiet_want; go_big_quiet_op; first | go_big_quiet_on | (refine ⟨_, fun _ _ => rfl, ?_⟩; go_big_quiet_on))
            first | go_big_quiet_skip | (go_big_quiet_want; go_big_quiet_op; first | go_big_quiet_on | (refine ⟨_, fun _ _ => rfl, ?_⟩; go_big_quiet_on))
            first | go_big_quiet_skip | (go_big_quiet_want; go_big_quiet_op; first | go_big_quiet_on | (refine ⟨_, fun _ _ => rfl, ?_⟩; go_big_quiet_on))
            first | go_big_quiet_skip | (go_big_quiet_want; go_big_quiet_op; first | go_big_quiet_on | (refine ⟨_, fun _ _ => rfl, ?_⟩; go_big_quiet_on))
            first | go_big_quiet_skip | (go_big_quiet_want; go_big_quiet_op; refine ⟨_, fun W hW => qcall hW (HI3 W).out, ?_⟩; go_big_quiet_on)
            first | go_big_quiet_skip | (go_big_quiet_want; refine ⟨.agg #[.int .i64 cn, .string cs], fun W hW => (by have y0 := (hW.cell (p := ⟨u5.heap.size, 0, none⟩) lC).trans C0; have y1 := (hW.cell (p := ⟨u5.heap.size, 1, none⟩) lC).trans C1; simp [Oper.quietAt, Oper.quietUpon, go_sem, y0, y1]), ?_⟩; simp only [Act.put, List.setIfInBounds_toArray, List.set_cons_zero, List.set_cons_succ]; go_big_quiet_on)
            first | go_big_quiet_skip | (go_big_quiet_want; go_big_quiet_op; first | go_big_quiet_on | (refine ⟨_, fun _ _ => rfl, ?_⟩; go_big_quiet_on))
            first | go_big_quiet_skip | (go_big_quiet_want; go_big_quiet_op; first | go_big_quiet_on | (refine ⟨_, fun _ _ => rfl, ?_⟩; go_big_quiet_on))
            first | go_big_quiet_skip | (go_big_quiet_want; go_big_quiet_op; first | go_big_quiet_on | (refine ⟨_, fun _ _ => rfl, ?_⟩; go_big_quiet_on))
            go_big_quiet_want; go_big_quiet_op; first | go_big_quiet_on | (refine ⟨_, fun _ _ => rfl, ?_⟩; go_big_quiet_on)
            go_big_quiet_want; go_big_quiet_op; first | go_big_quiet_on | (refine ⟨_, fun _ _ => rfl, ?_⟩; go_big_quiet_on)
            first | go_big_quiet_skip | (go_big_quiet_want; go_big_quiet_op; first | go_big_quiet_on | (refine ⟨_, fun _ _ => rfl, ?_⟩; go_big_quiet_on))
            first | go_big_quiet_skip | (go_big_quiet_want; refine ⟨.int .i64 zc, fun W hW => (by have y2 := (hW.cell (p := ⟨u8.heap.size, 2, none⟩) lZ).trans Z2; simp [Oper.quietAt, Oper.quietUpon, go_sem, y2]), ?_⟩; simp only [Act.put, List.setIfInBounds_toArray, List.set_cons_zero, List.set_cons_succ]; go_big_quiet_on)
            first | go_big_quiet_skip | (go_big_quiet_want; go_big_quiet_op; first | go_big_quiet_on | (refine ⟨_, fun _ _ => rfl, ?_⟩; go_big_quiet_on))
            first | go_big_quiet_skip | (go_big_quiet_want; go_big_quiet_op; first | go_big_quiet_on | (refine ⟨_, fun _ _ => rfl, ?_⟩; go_big_quiet_on))
            first | go_big_quiet_skip | (go_big_quiet_want; go_big_quiet_op; first | go_big_quiet_on | (refine ⟨_, fun _ _ => rfl, ?_⟩; go_big_quiet_on))
            first | go_big_quiet_skip | (go_big_quiet_want; refine ⟨.agg #[.int .i64 zn, .string zs], fun W hW => (by have y0 := (hW.cell (p := ⟨u8.heap.size, 0, none⟩) lZ).trans Z0; have y1 := (hW.cell (p := ⟨u8.heap.size, 1, none⟩) lZ).trans Z1; simp [Oper.quietAt, Oper.quietUpon, go_sem, y0, y1]), ?_⟩; simp only [Act.put, List.setIfInBounds_toArray, List.set_cons_zero, List.set_cons_succ]; go_big_quiet_on)
            first | go_big_quiet_skip | (go_big_quiet_want; go_big_quiet_op; refine ⟨_, fun W hW => qcall hW (HI4 W).out, ?_⟩; go_big_quiet_on)
            first | go_big_quiet_skip | (go_big_quiet_want; go_big_quiet_op; first | go_big_quiet_on | (refine ⟨_, fun _ _ => rfl, ?_⟩; go_big_quiet_on))
            first | go_big_quiet_skip | (go_big_quiet_want; go_big_quiet_op; first | go_big_quiet_on | (refine ⟨_, fun _ _ => rfl, ?_⟩; go_big_quiet_on))
            first | go_big_quiet_skip | (go_big_quiet_want; go_big_quiet_op; first | go_big_quiet_on | (refine ⟨_, fun _ _ => rfl, ?_⟩; go_big_quiet_on))
            go_big_quiet_want; go_big_quiet_op; first | go_big_quiet_on | (refine ⟨_, fun _ _ => rfl, ?_⟩; go_big_quiet_on)
            refine wpQuiet_nil ?_
            intro V2 hV2
            clear ck dk cy dy cz dz
            go_wp2_with fail
            go_meet
            exact ⟨rfl, hV2⟩
        · have HI3 := fun W => Lib.hid (implCanRead_any ⟨(tx :: ts).toArray⟩ W HTS.out)
          rw [HM3.out (by simp)] at HI3
          by_cases cz : zc = 0
          · obtain ⟨z1, z2, z3⟩ := HM4.out cz
            have HI4 := fun W => Lib.hid (implCanBytes_any zn zs W (by omega) (by omega) (Nat.le_trans z3 HUM.out))
            rw [z1] at HI4
            have dz : (zc == 0) = true := beq_iff_eq.2 cz
            clear z1 z2 z3
            refine wp_region_quiet (C := fun W => Below U.heap.size U W) (by kernel_rfl) (by kernel_rfl) hV.drew ?_
            dsimp only
            go_big_quiet_want; go_big_quiet_op; first | go_big_quiet_on | (refine ⟨_, fun _ _ => rfl, ?_⟩; go_big_quiet_on)
            go_big_quiet_want; go_big_quiet_op; first | go_big_quiet_on | (refine ⟨_, fun _ _ => rfl, ?_⟩; go_big_quiet_on)
            go_big_quiet_want; go_big_quiet_op; first | go_big_quiet_on | (refine ⟨_, fun _ _ => rfl, ?_⟩; go_big_quiet_on)
            first | go_big_quiet_skip | (go_big_quiet_want; go_big_quiet_op; first | go_big_quiet_on | (refine ⟨_, fun _ _ => rfl, ?_⟩; go_big_quiet_on))
            first | go_big_quiet_skip | (go_big_quiet_want; go_big_quiet_op; refine ⟨_, fun W hW => qcall hW (HI1 W).out, ?_⟩; go_big_quiet_on)
            first | go_big_quiet_skip | (go_big_quiet_want; refine ⟨.agg #[.int .i64 p, .int .i64 b, .int .i64 d, .int .i64 s], fun W hW => (by have y0 := (hW.cell (p := ⟨u2.heap.size, 0, none⟩) lX).trans X0; have y1 := (hW.cell (p := ⟨u2.heap.size, 1, none⟩) lX).trans X1; have y2 := (hW.cell (p := ⟨u2.heap.size, 2, none⟩) lX).trans X2; have y3 := (hW.cell (p := ⟨u2.heap.size, 3, none⟩) lX).trans X3; simp [Oper.quietAt, Oper.quietUpon, go_sem, y0, y1, y2, y3]), ?_⟩; simp only [Act.put, List.setIfInBounds_toArray, List.set_cons_zero, List.set_cons_succ]; go_big_quiet_on)
            first | go_big_quiet_skip | (go_big_quiet_want; go_big_quiet_op; first | go_big_quiet_on | (refine ⟨_, fun _ _ => rfl, ?_⟩; go_big_quiet_on))
            first | go_big_quiet_skip | (go_big_quiet_want; go_big_quiet_op; first | go_big_quiet_on | (refine ⟨_, fun _ _ => rfl, ?_⟩; go_big_quiet_on))
            go_big_quiet_want; go_big_quiet_op; first | go_big_quiet_on | (refine ⟨_, fun _ _ => rfl, ?_⟩; go_big_quiet_on)
            go_big_quiet_want; go_big_quiet_op; first | go_big_quiet_on | (refine ⟨_, fun _ _ => rfl, ?_⟩; go_big_quiet_on)
            first | go_big_quiet_skip | (go_big_quiet_want; go_big_quiet_op; first | go_big_quiet_on | (refine ⟨_, fun _ _ => rfl, ?_⟩; go_big_quiet_on))
            first | go_big_quiet_skip | (go_big_quiet_want; refine ⟨.int .i64 yc, fun W hW => (by have y4 := (hW.cell (p := ⟨u4.heap.size, 4, none⟩) lY).trans Y4; simp [Oper.quietAt, Oper.quietUpon, go_sem, y4]), ?_⟩; simp only [Act.put, List.setIfInBounds_toArray, List.set_cons_zero, List.set_cons_succ]; go_big_quiet_on)
            first | go_big_quiet_skip | (go_big_quiet_want; go_big_quiet_op; first | go_big_quiet_on | (refine ⟨_, fun _ _ => rfl, ?_⟩; go_big_quiet_on))
            first | go_big_quiet_skip | (go_big_quiet_want; go_big_quiet_op; first | go_big_quiet_on | (refine ⟨_, fun _ _ => rfl, ?_⟩; go_big_quiet_on))
            first | go_big_quiet_skip | (go_big_quiet_want; go_big_quiet_op; first | go_big_quiet_on | (refine ⟨_, fun _ _ => rfl, ?_⟩; go_big_quiet_on))
            first | go_big_quiet_skip | (go_big_quiet_want; refine ⟨.agg #[.int .i64 ya, .int .i64 yb, .int .i64 yd, .int .i64 ys], fun W hW => (by have y0 := (hW.cell (p := ⟨u4.heap.size, 0, none⟩) lY).trans Y0; have y1 := (hW.cell (p := ⟨u4.heap.size, 1, none⟩) lY).trans Y1; have y2 := (hW.cell (p := ⟨u4.heap.size, 2, none⟩) lY).trans Y2; have y3 := (hW.cell (p := ⟨u4.heap.size, 3, none⟩) lY).trans Y3; simp [Oper.quietAt, Oper.quietUpon, go_sem, y0, y1, y2, y3]), ?_⟩; simp only [Act.put, List.setIfInBounds_toArray, List.set_cons_zero, List.set_cons_succ]; go_big_quiet_on)
            first | go_big_quiet_skip | (go_big_quiet_want; go_big_quiet_op; refine ⟨_, fun W hW => qcall hW (HI2 W).out, ?_⟩; go_big_quiet_on)
            first | go_big_quiet_skip | (go_big_quiet_want; go_big_quiet_op; first | go_big_quiet_on | (refine ⟨_, fun _ _ => rfl, ?_⟩; go_big_quiet_on))
            first | go_big_quiet_skip | (go_big_quiet_want; go_big_quiet_op; first | go_big_quiet_on | (refine ⟨_, fun _ _ => rfl, ?_⟩; go_big_quiet_on))
            first | go_big_quiet_skip | (go_big_quiet_want; go_big_quiet_op; first | go_big_quiet_on | (refine ⟨_, fun _ _ => rfl, ?_⟩; go_big_quiet_on))
            go_big_quiet_want; go_big_quiet_op; first | go_big_quiet_on | (refine ⟨_, fun _ _ => rfl, ?_⟩; go_big_quiet_on)
            go_big_quiet_want; go_big_quiet_op; first | go_big_quiet_on | (refine ⟨_, fun _ _ => rfl, ?_⟩; go_big_quiet_on)
            first | go_big_quiet_skip | (go_big_quiet_want; go_big_quiet_op; first | go_big_quiet_on | (refine ⟨_, fun _ _ => rfl, ?_⟩; go_big_quiet_on))
            first | go_big_quiet_skip | (go_big_quiet_want; go_big_quiet_op; first | go_big_quiet_on | (refine ⟨_, fun _ _ => rfl, ?_⟩; go_big_quiet_on))
            first | go_big_quiet_skip | (go_big_quiet_want; go_big_quiet_op; first | go_big_quiet_on | (refine ⟨_, fun _ _ => rfl, ?_⟩; go_big_quiet_on))
            first | go_big_quiet_skip | (go_big_quiet_want; go_big_quiet_op; first | go_big_quiet_on | (refine ⟨_, fun _ _ => rfl, ?_⟩; go_big_quiet_on))
            first | go_big_quiet_skip | (go_big_quiet_want; go_big_quiet_op; refine ⟨_, fun W hW => qcall hW (HI3 W).out, ?_⟩; go_big_quiet_on)
            first | go_big_quiet_skip | (go_big_quiet_want; refine ⟨.agg #[.int .i64 cn, .string cs], fun W hW => (by have y0 := (hW.cell (p := ⟨u5.heap.size, 0, none⟩) lC).trans C0; have y1 := (hW.cell (p := ⟨u5.heap.size, 1, none⟩) lC).trans C1; simp [Oper.quietAt, Oper.quietUpon, go_sem, y0, y1]), ?_⟩; simp only [Act.put, List.setIfInBounds_toArray, List.set_cons_zero, List.set_cons_succ]; go_big_quiet_on)
            first | go_big_quiet_skip | (go_big_quiet_want; go_big_quiet_op; first | go_big_quiet_on | (refine ⟨_, fun _ _ => rfl, ?_⟩; go_big_quiet_on))
            first | go_big_quiet_skip | (go_big_quiet_want; go_big_quiet_op; first | go_big_quiet_on | (refine ⟨_, fun _ _ => rfl, ?_⟩; go_big_quiet_on))
            first | go_big_quiet_skip | (go_big_quiet_want; go_big_quiet_op; first | go_big_quiet_on | (refine ⟨_, fun _ _ => rfl, ?_⟩; go_big_quiet_on))
            go_big_quiet_want; go_big_quiet_op; first | go_big_quiet_on | (refine ⟨_, fun _ _ => rfl, ?_⟩; go_big_quiet_on)
            go_big_quiet_want; go_big_quiet_op; first | go_big_quiet_on | (refine ⟨_, fun _ _ => rfl, ?_⟩; go_big_quiet_on)
            first | go_big_quiet_skip | (go_big_quiet_want; go_big_quiet_op; first | go_big_quiet_on | (refine ⟨_, fun _ _ => rfl, ?_⟩; go_big_quiet_on))
            first | go_big_quiet_skip | (go_big_quiet_want; refine ⟨.int .i64 zc, fun W hW => (by have y2 := (hW.cell (p := ⟨u8.heap.size, 2, none⟩) lZ).trans Z2; simp [Oper.quietAt, Oper.quietUpon, go_sem, y2]), ?_⟩; simp only [Act.put, List.setIfInBounds_toArray, List.set_cons_zero, List.set_cons_succ]; go_big_quiet_on)
            first | go_big_quiet_skip | (go_big_quiet_want; go_big_quiet_op; first | go_big_quiet_on | (refine ⟨_, fun _ _ => rfl, ?_⟩; go_big_quiet_on))
            first | go_big_quiet_skip | (go_big_quiet_want; go_big_quiet_op; first | go_big_quiet_on | (refine ⟨_, fun _ _ => rfl, ?_⟩; go_big_quiet_on))
            first | go_big_quiet_skip | (go_big_quiet_want; go_big_quiet_op; first | go_big_quiet_on | (refine ⟨_, fun _ _ => rfl, ?_⟩; go_big_quiet_on))
            first | go_big_quiet_skip | (go_big_quiet_want; refine ⟨.agg #[.int .i64 zn, .string zs], fun W hW => (by have y0 := (hW.cell (p := ⟨u8.heap.size, 0, none⟩) lZ).trans Z0; have y1 := (hW.cell (p := ⟨u8.heap.size, 1, none⟩) lZ).trans Z1; simp [Oper.quietAt, Oper.quietUpon, go_sem, y0, y1]), ?_⟩; simp only [Act.put, List.setIfInBounds_toArray, List.set_cons_zero, List.set_cons_succ]; go_big_quiet_on)
            first | go_big_quiet_skip | (go_big_quiet_want; go_big_quiet_op; refine ⟨_, fun W hW => qcall hW (HI4 W).out, ?_⟩; go_big_quiet_on)
            first | go_big_quiet_skip | (go_big_quiet_want; go_big_quiet_op; first | go_big_quiet_on | (refine ⟨_, fun _ _ => rfl, ?_⟩; go_big_quiet_on))
            first | go_big_quiet_skip | (go_big_quiet_want; go_big_quiet_op; first | go_big_quiet_on | (refine ⟨_, fun _ _ => rfl, ?_⟩; go_big_quiet_on))
            first | go_big_quiet_skip | (go_big_quiet_want; go_big_quiet_op; first | go_big_quiet_on | (refine ⟨_, fun _ _ => rfl, ?_⟩; go_big_quiet_on))
            go_big_quiet_want; go_big_quiet_op; first | go_big_quiet_on | (refine ⟨_, fun _ _ => rfl, ?_⟩; go_big_quiet_on)
            refine wpQuiet_nil ?_
            intro V2 hV2
            clear ck dk cy dy cz dz
            go_wp2_with fail
            go_meet
            exact ⟨rfl, hV2⟩
          · have dz : (zc == 0) = false := beq_eq_false_iff_ne.2 cz
            refine wp_region_quiet (C := fun W => Below U.heap.size U W) (by kernel_rfl) (by kernel_rfl) hV.drew ?_
            dsimp only
            go_big_quiet_want; go_big_quiet_op; first | go_big_quiet_on | (refine ⟨_, fun _ _ => rfl, ?_⟩; go_big_quiet_on)
            go_big_quiet_want; go_big_quiet_op; first | go_big_quiet_on | (refine ⟨_, fun _ _ => rfl, ?_⟩; go_big_quiet_on)
            go_big_quiet_want; go_big_quiet_op; first | go_big_quiet_on | (refine ⟨_, fun _ _ => rfl, ?_⟩; go_big_quiet_on)
            first | go_big_quiet_skip | (go_big_quiet_want; go_big_quiet_op; first | go_big_quiet_on | (refine ⟨_, fun _ _ => rfl, ?_⟩; go_big_quiet_on))
            first | go_big_quiet_skip | (go_big_quiet_want; go_big_quiet_op; refine ⟨_, fun W hW => qcall hW (HI1 W).out, ?_⟩; go_big_quiet_on)
            first | go_big_quiet_skip | (go_big_quiet_want; refine ⟨.agg #[.int .i64 p, .int .i64 b, .int .i64 d, .int .i64 s], fun W hW => (by have y0 := (hW.cell (p := ⟨u2.heap.size, 0, none⟩) lX).trans X0; have y1 := (hW.cell (p := ⟨u2.heap.size, 1, none⟩) lX).trans X1; have y2 := (hW.cell (p := ⟨u2.heap.size, 2, none⟩) lX).trans X2; have y3 := (hW.cell (p := ⟨u2.heap.size, 3, none⟩) lX).trans X3; simp [Oper.quietAt, Oper.quietUpon, go_sem, y0, y1, y2, y3]), ?_⟩; simp only [Act.put, List.setIfInBounds_toArray, List.set_cons_zero, List.set_cons_succ]; go_big_quiet_on)
            first | go_big_quiet_skip | (go_big_quiet_want; go_big_quiet_op; first | go_big_quiet_on | (refine ⟨_, fun _ _ => rfl, ?_⟩; go_big_quiet_on))
            first | go_big_quiet_skip | (go_big_quiet_want; go_big_quiet_op; first | go_big_quiet_on | (refine ⟨_, fun _ _ => rfl, ?_⟩; go_big_quiet_on))
            go_big_quiet_want; go_big_quiet_op; first | go_big_quiet_on | (refine ⟨_, fun _ _ => rfl, ?_⟩; go_big_quiet_on)
            go_big_quiet_want; go_big_quiet_op; first | go_big_quiet_on | (refine ⟨_, fun _ _ => rfl, ?_⟩; go_big_quiet_on)
            first | go_big_quiet_skip | (go_big_quiet_want; go_big_quiet_op; first | go_big_quiet_on | (refine ⟨_, fun _ _ => rfl, ?_⟩; go_big_quiet_on))
            first | go_big_quiet_skip | (go_big_quiet_want; refine ⟨.int .i64 yc, fun W hW => (by have y4 := (hW.cell (p := ⟨u4.heap.size, 4, none⟩) lY).trans Y4; simp [Oper.quietAt, Oper.quietUpon, go_sem, y4]), ?_⟩; simp only [Act.put, List.setIfInBounds_toArray, List.set_cons_zero, List.set_cons_succ]; go_big_quiet_on)
            first | go_big_quiet_skip | (go_big_quiet_want; go_big_quiet_op; first | go_big_quiet_on | (refine ⟨_, fun _ _ => rfl, ?_⟩; go_big_quiet_on))
            first | go_big_quiet_skip | (go_big_quiet_want; go_big_quiet_op; first | go_big_quiet_on | (refine ⟨_, fun _ _ => rfl, ?_⟩; go_big_quiet_on))
            first | go_big_quiet_skip | (go_big_quiet_want; go_big_quiet_op; first | go_big_quiet_on | (refine ⟨_, fun _ _ => rfl, ?_⟩; go_big_quiet_on))
            first | go_big_quiet_skip | (go_big_quiet_want; refine ⟨.agg #[.int .i64 ya, .int .i64 yb, .int .i64 yd, .int .i64 ys], fun W hW => (by have y0 := (hW.cell (p := ⟨u4.heap.size, 0, none⟩) lY).trans Y0; have y1 := (hW.cell (p := ⟨u4.heap.size, 1, none⟩) lY).trans Y1; have y2 := (hW.cell (p := ⟨u4.heap.size, 2, none⟩) lY).trans Y2; have y3 := (hW.cell (p := ⟨u4.heap.size, 3, none⟩) lY).trans Y3; simp [Oper.quietAt, Oper.quietUpon, go_sem, y0, y1, y2, y3]), ?_⟩; simp only [Act.put, List.setIfInBounds_toArray, List.set_cons_zero, List.set_cons_succ]; go_big_quiet_on)
            first | go_big_quiet_skip | (go_big_quiet_want; go_big_quiet_op; refine ⟨_, fun W hW => qcall hW (HI2 W).out, ?_⟩; go_big_quiet_on)
            first | go_big_quiet_skip | (go_big_quiet_want; go_big_quiet_op; first | go_big_quiet_on | (refine ⟨_, fun _ _ => rfl, ?_⟩; go_big_quiet_on))
            first | go_big_quiet_skip | (go_big_quiet_want; go_big_quiet_op; first | go_big_quiet_on | (refine ⟨_, fun _ _ => rfl, ?_⟩; go_big_quiet_on))
            first | go_big_quiet_skip | (go_big_quiet_want; go_big_quiet_op; first | go_big_quiet_on | (refine ⟨_, fun _ _ => rfl, ?_⟩; go_big_quiet_on))
            go_big_quiet_want; go_big_quiet_op; first | go_big_quiet_on | (refine ⟨_, fun _ _ => rfl, ?_⟩; go_big_quiet_on)
            go_big_quiet_want; go_big_quiet_op; first | go_big_quiet_on | (refine ⟨_, fun _ _ => rfl, ?_⟩; go_big_quiet_on)
            first | go_big_quiet_skip | (go_big_quiet_want; go_big_quiet_op; first | go_big_quiet_on | (refine ⟨_, fun _ _ => rfl, ?_⟩; go_big_quiet_on))
            first | go_big_quiet_skip | (go_big_quiet_want; go_big_quiet_op; first | go_big_quiet_on | (refine ⟨_, fun _ _ => rfl, ?_⟩; go_big_quiet_on))
            first | go_big_quiet_skip | (go_big_quiet_want; go_big_quiet_op; first | go_big_quiet_on | (refine ⟨_, fun _ _ => rfl, ?_⟩; go_big_quiet_on))
            first | go_big_quiet_skip | (go_big_quiet_want; go_big_quiet_op; first | go_big_quiet_on | (refine ⟨_, fun _ _ => rfl, ?_⟩; go_big_quiet_on))
            first | go_big_quiet_skip | (go_big_quiet_want; go_big_quiet_op; refine ⟨_, fun W hW => qcall hW (HI3 W).out, ?_⟩; go_big_quiet_on)
            first | go_big_quiet_skip | (go_big_quiet_want; refine ⟨.agg #[.int .i64 cn, .string cs], fun W hW => (by have y0 := (hW.cell (p := ⟨u5.heap.size, 0, none⟩) lC).trans C0; have y1 := (hW.cell (p := ⟨u5.heap.size, 1, none⟩) lC).trans C1; simp [Oper.quietAt, Oper.quietUpon, go_sem, y0, y1]), ?_⟩; simp only [Act.put, List.setIfInBounds_toArray, List.set_cons_zero, List.set_cons_succ]; go_big_quiet_on)
            first | go_big_quiet_skip | (go_big_quiet_want; go_big_quiet_op; first | go_big_quiet_on | (refine ⟨_, fun _ _ => rfl, ?_⟩; go_big_quiet_on))
            first | go_big_quiet_skip | (go_big_quiet_want; go_big_quiet_op; first | go_big_quiet_on | (refine ⟨_, fun _ _ => rfl, ?_⟩; go_big_quiet_on))
            first | go_big_quiet_skip | (go_big_quiet_want; go_big_quiet_op; first | go_big_quiet_on | (refine ⟨_, fun _ _ => rfl, ?_⟩; go_big_quiet_on))
            go_big_quiet_want; go_big_quiet_op; first | go_big_quiet_on | (refine ⟨_, fun _ _ => rfl, ?_⟩; go_big_quiet_on)
            go_big_quiet_want; go_big_quiet_op; first | go_big_quiet_on | (refine ⟨_, fun _ _ => rfl, ?_⟩; go_big_quiet_on)
            first | go_big_quiet_skip | (go_big_quiet_want; go_big_quiet_op; first | go_big_quiet_on | (refine ⟨_, fun _ _ => rfl, ?_⟩; go_big_quiet_on))
            first | go_big_quiet_skip | (go_big_quiet_want; refine ⟨.int .i64 zc, fun W hW => (by have y2 := (hW.cell (p := ⟨u8.heap.size, 2, none⟩) lZ).trans Z2; simp [Oper.quietAt, Oper.quietUpon, go_sem, y2]), ?_⟩; simp only [Act.put, List.setIfInBounds_toArray, List.set_cons_zero, List.set_cons_succ]; go_big_quiet_on)
            first | go_big_quiet_skip | (go_big_quiet_want; go_big_quiet_op; first | go_big_quiet_on | (refine ⟨_, fun _ _ => rfl, ?_⟩; go_big_quiet_on))
            first | go_big_quiet_skip | (go_big_quiet_want; go_big_quiet_op; first | go_big_quiet_on | (refine ⟨_, fun _ _ => rfl, ?_⟩; go_big_quiet_on))
            first | go_big_quiet_skip | (go_big_quiet_want; go_big_quiet_op; first | go_big_quiet_on | (refine ⟨_, fun _ _ => rfl, ?_⟩; go_big_quiet_on))
            first | go_big_quiet_skip | (go_big_quiet_want; refine ⟨.agg #[.int .i64 zn, .string zs], fun W hW => (by have y0 := (hW.cell (p := ⟨u8.heap.size, 0, none⟩) lZ).trans Z0; have y1 := (hW.cell (p := ⟨u8.heap.size, 1, none⟩) lZ).trans Z1; simp [Oper.quietAt, Oper.quietUpon, go_sem, y0, y1]), ?_⟩; simp only [Act.put, List.setIfInBounds_toArray, List.set_cons_zero, List.set_cons_succ]; go_big_quiet_on)
            first | go_big_quiet_skip | (go_big_quiet_want; go_big_quiet_op; refine ⟨_, fun W hW => qcall hW (HI4 W).out, ?_⟩; go_big_quiet_on)
            first | go_big_quiet_skip | (go_big_quiet_want; go_big_quiet_op; first | go_big_quiet_on | (refine ⟨_, fun _ _ => rfl, ?_⟩; go_big_quiet_on))
            first | go_big_quiet_skip | (go_big_quiet_want; go_big_quiet_op; first | go_big_quiet_on | (refine ⟨_, fun _ _ => rfl, ?_⟩; go_big_quiet_on))
            first | go_big_quiet_skip | (go_big_quiet_want; go_big_quiet_op; first | go_big_quiet_on | (refine ⟨_, fun _ _ => rfl, ?_⟩; go_big_quiet_on))
            go_big_quiet_want; go_big_quiet_op; first | go_big_quiet_on | (refine ⟨_, fun _ _ => rfl, ?_⟩; go_big_quiet_on)
            refine wpQuiet_nil ?_
            intro V2 hV2
            clear ck dk cy dy cz dz
            go_wp2_with fail
            go_meet
            exact ⟨rfl, hV2⟩
  case rest =>
    obtain ⟨rfl, hV3⟩ := hcut
    clear HM1 HM2 HM3 HM4 hV X0 X1 X2 X3 Y0 Y1 Y2 Y3 Y4 C0 C1 Z0 Z1 Z2 lX lY lC lZ
    by_cases cf : 0 ≤ f
    · have df : decide (0 ≤ f) = true := decide_eq_true cf
      obtain ⟨m, hm, hml, hle, hlt⟩ := HM5.out cf
      have HLE := Lib.hid hle
      have HLT := Lib.hid hlt
      clear hle hlt HM5
      obtain ⟨bb, oo, hla, hbl, hc⟩ : ∃ b o, la = some ⟨b, o, none⟩ ∧ b < U.heap.size ∧ ∀ (i : Nat) x, l[i]? = some x → U.cell? ⟨b, o + i * 2, none⟩ = some (.int .i64 x.1) ∧ U.cell? ⟨b, o + i * 2 + 1, none⟩ = some (.string x.2) := by
        rcases HINU.out with h | h
        · rw [h] at hml
          simp at hml
        · exact h
      subst hla hm
      have HI := Lib.hid hc
      clear hc
      obtain ⟨N, hN⟩ : ∃ N, l.length = N := ⟨_, rfl⟩
      have HN := Lib.hid hN
      rw [hN] at hml hl4
      simp only [hN]
      clear hN
      go_wp2_with fail
      go_loopw [16] (fun i wr => ∃ j : Nat, i = .int .i64 (j : Int) ∧ j ≤ N ∧ Below U.heap.size U wr) (fun i _ => N - (intOf i).toNat)
      case atStart => exact ⟨0, rfl, by omega, hV3⟩
      case round =>
        obtain ⟨j, rfl, hj, hb⟩ := hrel
        by_cases hjn : j < N
        · have hjl : j < l.length := by have := HN.out; omega
          have d0 := (hb.cell (p := ⟨bb, _, none⟩) hbl).trans (HI.out j _ (canAt_some hjl)).1
          have d1 := (hb.cell (p := ⟨bb, _, none⟩) hbl).trans (HI.out m _ (canAt_some (by have := HN.out; omega))).1
          have hxy := HLE.out j hjl
          have hlt := HLT.out j
          generalize (canAt l j).1 = x at *
          generalize (canAt l m).1 = y at *
          have hi1 : (0 : Int) ≤ (j : Int) := by omega
          have hi2 : (j : Int) < (N : Int) := by omega
          have hi3 : (0 : Int) ≤ (m : Int) := by omega
          have hi4 : (m : Int) < (N : Int) := by omega
          have e0 : decide (x < y) = false := decide_eq_false (by omega)
          by_cases he : x = y
          · have e1 : (x == y) = true := beq_iff_eq.2 he
            have e2 : decide ((j : Int) < (m : Int)) = false := decide_eq_false (by intro q; have := hlt (by omega); omega)
            have e3 : m ≤ j := Nat.le_of_not_lt (fun q => by have := hlt q; omega)
            have e4 : decide (j < m) = false := decide_eq_false (by omega)
            clear hlt he
            go_wp2_with fail
            go_quiet (fail)
            go_wp2
            go_roundw
            case rel => exact ⟨j + 1, by go_num, by omega, below_drewN hb _⟩
            case measure => simp [intOf]; omega
          · have e1 : (x == y) = false := beq_eq_false_iff_ne.2 he
            clear hlt he
            go_wp2_with fail
            go_quiet (fail)
            go_wp2
            go_roundw
            case rel => exact ⟨j + 1, by go_num, by omega, below_drewN hb _⟩
            case measure => simp [intOf]; omega
        · have hge : N ≤ j := by omega
          clear hjn
          go_wp2
          go_ret
          exact ⟨rfl, tU.trans (hb.mono tU.size)⟩
    · have df : decide (0 ≤ f) = false := decide_eq_false cf
      go_wp2_with fail
      refine wp_loop_rounds 1 ?_
      rw [rounds_succ]
      by_cases hl : (0 : Int) < (l.length : Int)
      · have dl : decide ((0 : Int) < (l.length : Int)) = true := decide_eq_true hl
        go_wp2
        go_ret
        exact ⟨rfl, tU.trans (hV3.mono tU.size)⟩
      · have dl : decide ((0 : Int) < (l.length : Int)) = false := decide_eq_false hl
        go_wp2
        go_ret
        exact ⟨rfl, tU.trans (hV3.mono tU.size)⟩

set_option maxRecDepth 100000 in
theorem lifted (os : Os) (started : os.Started) (H : Type) (enc : TypeId × Value → H) :
    ReturnsInHanded {} Try.checked os 3 .any (Rows.fnCanSpec.pre6 enc Try.prog Try.f3 Rows.fnCanRow.domain false) (Rows.fnCanSpec.post enc Try.prog Try.f3 false true false false) := by
  refine returnsInHanded_of_change (C := Try.checked) own started (by kernel_rfl) Try.func3
    (ChangeSpec.witness6 (enc := enc) (C := Try.checked) false ⟨#[], #[.slice none 0 0, .slice none 0 0], []⟩ 8 (by kernel_rfl) (by kernel_rfl) (by kernel_rfl) (by kernel_rfl)) ?_
  intro W base args ds gs before hval0 hW hcnd _
  have hval : ∀ (j : Nat) t v, Try.f3.params[j]? = some t → args[j]? = some v → Value.okWide Try.prog W .any base t v := hval0
  have hW' := hW
  obtain ⟨p, q, hA0, hV, rfl, hfz, hnd⟩ := hW
  have hA : DataW.TrodAll enc Try.prog W 0 (fun _ => true) true Try.f3.params.toList args.toList ds p := hA0
  rw [Try.params3] at hA hval
  obtain ⟨v0, vs0, d0, ds0, p0, q0, hargs, rfl, rfl, h0, r0⟩ := trodAll_cons hA
  obtain ⟨v1, vs1, d1, ds1, p1, q1, rfl, rfl, rfl, h1, r1⟩ := trodAll_cons r0
  obtain ⟨rfl, rfl, rfl⟩ := trodAll_nil r1
  obtain rfl : args = #[v0, v1] := by cases args; simp_all
  obtain ⟨rfl, rfl⟩ := trodVars_none hV
  obtain ⟨a0, len0, cap0, rfl⟩ := okWide_slice Try.underlying22 (hval 0 22 v0 rfl rfl)
  have k0 := h0
  have lt0 : ∀ x ∈ p0, x.block < W.heap.size := by obtain ⟨m, hm⟩ := k0; exact DataW.trod_lt m _ _ _ hm
  obtain ⟨z0, w0⟩ : ∃ zs, IsRow .u8 W a0 len0 cap0 zs := by
    obtain ⟨fuel, hf⟩ := h0
    rcases open_ints Try.underlying22 Try.underlying5 (by kernel_rfl) hf with ⟨hcs, _⟩ | ⟨x, l, c, zs, hcs, _, hl, hm, hz, _, hcell, hwz⟩
    · simp [Value.cells] at hcs
      obtain ⟨rfl, rfl, rfl⟩ := hcs
      exact ⟨[], .inl ⟨rfl, rfl, rfl, rfl⟩⟩
    · simp [Value.cells] at hcs
      obtain ⟨rfl, rfl, rfl⟩ := hcs
      exact ⟨zs, .inr ⟨_, rfl, hl, hm, by simpa using hz, hcell, hwz⟩⟩
  obtain ⟨a1, len1, cap1, rfl⟩ := okWide_slice Try.underlying22 (hval 1 22 v1 rfl rfl)
  have k1 := h1
  have lt1 : ∀ x ∈ p1, x.block < W.heap.size := by obtain ⟨m, hm⟩ := k1; exact DataW.trod_lt m _ _ _ hm
  obtain ⟨z1, w1⟩ : ∃ zs, IsRow .u8 W a1 len1 cap1 zs := by
    obtain ⟨fuel, hf⟩ := h1
    rcases open_ints Try.underlying22 Try.underlying5 (by kernel_rfl) hf with ⟨hcs, _⟩ | ⟨x, l, c, zs, hcs, _, hl, hm, hz, _, hcell, hwz⟩
    · simp [Value.cells] at hcs
      obtain ⟨rfl, rfl, rfl⟩ := hcs
      exact ⟨[], .inl ⟨rfl, rfl, rfl, rfl⟩⟩
    · simp [Value.cells] at hcs
      obtain ⟨rfl, rfl, rfl⟩ := hcs
      exact ⟨zs, .inr ⟨_, rfl, hl, hm, by simpa using hz, hcell, hwz⟩⟩
  clear hA0 hval0
  refine (walk a0 len0 cap0 z0 a1 len1 cap1 z1 W w0 w1).mono fun e W' ⟨he, bel⟩ => ?_
  subst he
  exact ⟨_, rfl, _, _, _, [], _, [], hW', trodAll_mk1 (shut_bool Try.underlying4 _), (trodAll_cons_mk (Below.trod laidOut (by kernel_rfl) (of_decide_eq_true (by kernel_rfl)) k0 bel lt0) (trodAll_cons_mk (Below.trod laidOut (by kernel_rfl) (of_decide_eq_true (by kernel_rfl)) k1 bel lt1) trodAll_mk0)), rfl, bel.frame _, fun h => by cases h⟩

theorem over : Rows.fnCanRow.holds Try.pinned (OpenSpec.ofChange Rows.fnCanSpec) :=
  OpenClaim.holds_of_wide 3 Try.f3 rfl rfl rfl rfl rfl rfl rfl ⟨rfl, rfl, rfl, rfl, rfl⟩ rfl rfl rfl rfl rfl (by kernel_rfl) Try.func3 (by kernel_rfl)
    (of_decide_eq_true (by kernel_rfl)) (by unfold Func.isWrapper; first | (rw [if_pos (by decide +kernel)]; kernel_rfl) | (rw [if_neg (by decide +kernel)]; exact ⟨rfl, rfl⟩))
    (fun os started H enc _ => lifted os started H enc)

/-- ████ THE STATEMENT ████ -/
theorem proved : Rows.FnCanSaid := over
#print axioms proved
end Go.Proofs.Ytdodjkocdaghaaa.fnCan
