/-
  Proved: for every operation and number of rows, the law FnExactOpMatrix returns true: the program's OpMatrix answers as the model's, writes into no argument, and its answer owns its memory.
  Conditions: none beyond the row's own (the arguments read as data).
-/
import Derived.Test.YtiggioccmlbhhaaRows
import Derived.ChangeOld
import Derived.Below
import Derived.Test.YtiggioccmlbhhaaMemO
import Derived.Test.YtiggioccmlbhhaaRI5
import Derived.Test.YtiggioccmlbhhaaRow5
import Derived.Deep.RegionHeld3
import Derived.Deep.DeepCutAuto
import Derived.WalkKit
import Derived.ProofKit
import Derived.OpenShut
import Derived.ShutString
import Derived.Carry
import Derived.Lib.SmallJoins
namespace Go.Proofs.Ytiggioccmlbhhaa.fnExactOpMatrix
open Go.ChangeShapes Go.WideShapes Go.ChangeAt Go.RowKit
open Go.ChangeMaps (open_string shut_string)
set_option linter.unusedVariables false

theorem own : ownKnob Try.prog.godebug = none := by kernel_rfl
theorem laidOut : laidOutB Try.prog = true := by kernel_rfl
theorem cells41 : Try.prog.cellsOf 41 = 4 := by kernel_rfl
set_option maxRecDepth 100000 in
set_option maxHeartbeats 8000000 in

theorem walk (a0_0 : Int) (a0_1 : Int) (a0_2 : Int) (a0_3 : Int) (a1 : Int) (w : World) (w0_0 : (Lit.int .i64 a0_0).wf = true) (w0_1 : (Lit.int .i64 a0_1).wf = true) (w0_2 : (Lit.int .i64 a0_2).wf = true) (w0_3 : (Lit.int .i64 a0_3).wf = true) (w1 : (Lit.int .i64 a1).wf = true) :
    Calls Try.prog 9 #[.agg #[.int .i64 a0_0, .int .i64 a0_1, .int .i64 a0_2, .int .i64 a0_3], .int .i64 a1] w fun e w' => e = .returned (.bool true) ∧ Below w.heap.size w w' := by
  go_enter Try.func9, Try.ntmps9
  go_wp2_with fail
  obtain ⟨mr, hmr⟩ : ∃ mr, opMat a0_0 a0_1 a0_2 a0_3 a1 = mr := ⟨_, rfl⟩
  have MRH := Lib.hid hmr
  clear hmr
  refine (toRo ⟨a0_0, a0_1, a0_2, a0_3⟩ _).mono ?_
  rintro e w2 ⟨rfl, hb⟩
  have P0 : Hid (Blk4 w2 w.heap.size 41 (.int .i64 a0_0) (.int .i64 a0_1) (.int .i64 a0_2) (.int .i64 a0_3)) := (Blk4.at_ _ _ _ _ _ rfl).keep hb (by simp)
  have B : Hid (Below w.heap.size w w2) := ((Below.refl _ _).alloc (Nat.le_refl _) _).trans (hb.mono (by simp))
  clear hb
  obtain ⟨cd1_00, cd1_01, cd1_02, cd1_03⟩ := P0.out.all
  have ld1_0 := P0.out.lt
  go_wp2_with fail
  refine (sOpMat a0_0 a0_1 a0_2 a0_3 a1 _).mono ?_
  rintro e w3 ⟨vO, rfl, own, hb⟩
  rw [MRH.out] at own ⊢
  obtain ⟨qO, qcO, rfl, -, -⟩ := own.form
  have P0 := Lib.hid (P0.out.step hb)
  have B := Lib.hid (stepB B.out hb)
  have O0 : Hid (In w2.heap.size w3.heap.size w3 (.slice qO mr.zs.length qcO) mr.zs) := by have := own.inn; (try simp at this); exact this
  have sw3 : w2.heap.size ≤ w3.heap.size := by have := hb.size; simpa using this
  have KO : Hid (Blk3 (w3.alloc (.cells #[.int .i64 mr.r, .int .i64 mr.c, .slice qO mr.zs.length qcO] 26)) w3.heap.size 26 (.int .i64 mr.r) (.int .i64 mr.c) (.slice qO mr.zs.length qcO)) := Blk3.at_ _ _ _ _ rfl
  have szO := own.small
  clear hb own
  obtain ⟨cd2_00, cd2_01, cd2_02, cd2_03⟩ := P0.out.all
  have ld2_0 := P0.out.lt
  go_wp2_with fail
  refine (toRo ⟨a0_0, a0_1, a0_2, a0_3⟩ _).mono ?_
  rintro e w4 ⟨rfl, hb⟩
  have KO := Lib.hid (KO.out.step hb)
  have P0 := Lib.hid ((P0.out.old _).step hb)
  have O0 := Lib.hid ((O0.out.old _).keep hb)
  have B := Lib.hid (stepB (B.out.alloc B.out.size _) hb)
  clear hb
  obtain ⟨cd3_00, cd3_01, cd3_02, cd3_03⟩ := P0.out.all
  have ld3_0 := P0.out.lt
  obtain ⟨cc3_00, cc3_01, cc3_02, -, -, -⟩ := KO.out.all
  have ll3_0 := KO.out.lt
  go_wp2_with fail
  refine (iOpMat a0_0 a0_1 a0_2 a0_3 a1 _).mono ?_
  rintro e w5 ⟨vG, rfl, own, hb⟩
  rw [MRH.out] at own ⊢
  obtain ⟨qG, qcG, rfl, -, -⟩ := own.form
  have P0 := Lib.hid (P0.out.step hb)
  have O0 := Lib.hid (O0.out.keep hb)
  have KO := Lib.hid (KO.out.step hb)
  have B := Lib.hid (stepB B.out hb)
  have G0 : Hid (In w4.heap.size w5.heap.size w5 (.slice qG mr.zs.length qcG) mr.zs) := by have := own.inn; (try simp at this); exact this
  have sw5 : w4.heap.size ≤ w5.heap.size := by have := hb.size; simpa using this
  have KG : Hid (Blk3 (w5.alloc (.cells #[.int .i64 mr.r, .int .i64 mr.c, .slice qG mr.zs.length qcG] 26)) w5.heap.size 26 (.int .i64 mr.r) (.int .i64 mr.c) (.slice qG mr.zs.length qcG)) := Blk3.at_ _ _ _ _ rfl
  have szG := own.small
  clear hb own
  obtain ⟨cd4_00, cd4_01, cd4_02, cd4_03⟩ := P0.out.all
  have ld4_0 := P0.out.lt
  obtain ⟨cc4_00, cc4_01, cc4_02, -, -, -⟩ := KO.out.all
  have ll4_0 := KO.out.lt
  go_wp2_with fail
  refine (eqM_t mr.r mr.c qG qO qcG qcO mr.zs _ (G0.out.old _).rd.2.1 (O0.out.old _).rd.2.1 szG).mono ?_
  rintro e w6 ⟨rfl, hb⟩
  have KG := Lib.hid (KG.out.step hb)
  have P0 := Lib.hid ((P0.out.old _).step hb)
  have O0 := Lib.hid ((O0.out.old _).keep hb)
  have KO := Lib.hid ((KO.out.old _).step hb)
  have G0 := Lib.hid ((G0.out.old _).keep hb)
  have B := Lib.hid (stepB (B.out.alloc B.out.size _) hb)
  clear hb
  obtain ⟨cd5_00, cd5_01, cd5_02, cd5_03⟩ := P0.out.all
  have ld5_0 := P0.out.lt
  obtain ⟨cc5_00, cc5_01, cc5_02, -, -, -⟩ := KO.out.all
  have ll5_0 := KO.out.lt
  obtain ⟨cc5_10, cc5_11, cc5_12, -, -, -⟩ := KG.out.all
  have ll5_1 := KG.out.lt
  go_wp2_with fail
  refine (markIn mr.r mr.c qG mr.zs.length qcG mr.zs 1 _ G0.out (by omega) (by omega)).mono ?_
  rintro e w7 ⟨rfl, inn, hc⟩
  have P0 := Lib.hid (P0.out.chg hc (by omega))
  have O0 := Lib.hid (O0.out.chg hc (by omega))
  have KO := Lib.hid (KO.out.chg hc (by omega))
  have KG := Lib.hid (KG.out.chg hc (by omega))
  have B := Lib.hid (Below.chg B.out hc (by omega) B.out.size)
  have G0 := Lib.hid inn
  clear hc inn
  obtain ⟨cd6_00, cd6_01, cd6_02, cd6_03⟩ := P0.out.all
  have ld6_0 := P0.out.lt
  obtain ⟨cc6_00, cc6_01, cc6_02, -, -, -⟩ := KO.out.all
  have ll6_0 := KO.out.lt
  obtain ⟨cc6_10, cc6_11, cc6_12, -, -, -⟩ := KG.out.all
  have ll6_1 := KG.out.lt
  go_wp2_with fail
  refine (heldM mr.r mr.c qG qcG mr.zs.length 1 _ G0.out.rd.2.1 szG (by omega) (by omega)).mono ?_
  rintro e w8 ⟨rfl, hb⟩
  have P0 := Lib.hid (P0.out.step hb)
  have O0 := Lib.hid (O0.out.keep hb)
  have KO := Lib.hid (KO.out.step hb)
  have KG := Lib.hid (KG.out.step hb)
  have G0 := Lib.hid (G0.out.keep hb)
  have B := Lib.hid (stepB B.out hb)
  clear hb
  obtain ⟨cd7_00, cd7_01, cd7_02, cd7_03⟩ := P0.out.all
  have ld7_0 := P0.out.lt
  obtain ⟨cc7_00, cc7_01, cc7_02, -, -, -⟩ := KO.out.all
  have ll7_0 := KO.out.lt
  obtain ⟨cc7_10, cc7_11, cc7_12, -, -, -⟩ := KG.out.all
  have ll7_1 := KG.out.lt
  go_wp2_with fail
  refine (toRo ⟨a0_0, a0_1, a0_2, a0_3⟩ _).mono ?_
  rintro e w9 ⟨rfl, hb⟩
  have P0 := Lib.hid (P0.out.step hb)
  have O0 := Lib.hid (O0.out.keep hb)
  have KO := Lib.hid (KO.out.step hb)
  have KG := Lib.hid (KG.out.step hb)
  have G0 := Lib.hid (G0.out.keep hb)
  have B := Lib.hid (stepB B.out hb)
  clear hb
  obtain ⟨cd8_00, cd8_01, cd8_02, cd8_03⟩ := P0.out.all
  have ld8_0 := P0.out.lt
  obtain ⟨cc8_00, cc8_01, cc8_02, -, -, -⟩ := KO.out.all
  have ll8_0 := KO.out.lt
  obtain ⟨cc8_10, cc8_11, cc8_12, -, -, -⟩ := KG.out.all
  have ll8_1 := KG.out.lt
  go_wp2_with fail
  refine (iOpMat a0_0 a0_1 a0_2 a0_3 a1 _).mono ?_
  rintro e w10 ⟨vH, rfl, own, hb⟩
  rw [MRH.out] at own ⊢
  obtain ⟨qH, qcH, rfl, -, -⟩ := own.form
  have P0 := Lib.hid (P0.out.step hb)
  have O0 := Lib.hid (O0.out.keep hb)
  have KO := Lib.hid (KO.out.step hb)
  have KG := Lib.hid (KG.out.step hb)
  have G0 := Lib.hid (G0.out.keep hb)
  have B := Lib.hid (stepB B.out hb)
  have H0 : Hid (In w9.heap.size w10.heap.size w10 (.slice qH mr.zs.length qcH) mr.zs) := by have := own.inn; (try simp at this); exact this
  have sw10 : w9.heap.size ≤ w10.heap.size := by have := hb.size; simpa using this
  have KH : Hid (Blk3 (w10.alloc (.cells #[.int .i64 mr.r, .int .i64 mr.c, .slice qH mr.zs.length qcH] 26)) w10.heap.size 26 (.int .i64 mr.r) (.int .i64 mr.c) (.slice qH mr.zs.length qcH)) := Blk3.at_ _ _ _ _ rfl
  have szH := own.small
  clear hb own
  obtain ⟨cd9_00, cd9_01, cd9_02, cd9_03⟩ := P0.out.all
  have ld9_0 := P0.out.lt
  obtain ⟨cc9_00, cc9_01, cc9_02, -, -, -⟩ := KO.out.all
  have ll9_0 := KO.out.lt
  obtain ⟨cc9_10, cc9_11, cc9_12, -, -, -⟩ := KG.out.all
  have ll9_1 := KG.out.lt
  go_wp2_with fail
  refine (eqM_t mr.r mr.c qH qO qcH qcO mr.zs _ (H0.out.old _).rd.2.1 (O0.out.old _).rd.2.1 szH).mono ?_
  rintro e w11 ⟨rfl, hb⟩
  have KH := Lib.hid (KH.out.step hb)
  have P0 := Lib.hid ((P0.out.old _).step hb)
  have O0 := Lib.hid ((O0.out.old _).keep hb)
  have KO := Lib.hid ((KO.out.old _).step hb)
  have KG := Lib.hid ((KG.out.old _).step hb)
  have G0 := Lib.hid ((G0.out.old _).keep hb)
  have H0 := Lib.hid ((H0.out.old _).keep hb)
  have B := Lib.hid (stepB (B.out.alloc B.out.size _) hb)
  clear hb
  obtain ⟨cd10_00, cd10_01, cd10_02, cd10_03⟩ := P0.out.all
  have ld10_0 := P0.out.lt
  obtain ⟨cc10_00, cc10_01, cc10_02, -, -, -⟩ := KO.out.all
  have ll10_0 := KO.out.lt
  obtain ⟨cc10_10, cc10_11, cc10_12, -, -, -⟩ := KG.out.all
  have ll10_1 := KG.out.lt
  obtain ⟨cc10_20, cc10_21, cc10_22, -, -, -⟩ := KH.out.all
  have ll10_2 := KH.out.lt
  go_wp2_with fail
  refine (heldM mr.r mr.c qG qcG mr.zs.length 1 _ G0.out.rd.2.1 szG (by omega) (by omega)).mono ?_
  rintro e w12 ⟨rfl, hb⟩
  have P0 := Lib.hid (P0.out.step hb)
  have O0 := Lib.hid (O0.out.keep hb)
  have KO := Lib.hid (KO.out.step hb)
  have KG := Lib.hid (KG.out.step hb)
  have G0 := Lib.hid (G0.out.keep hb)
  have H0 := Lib.hid (H0.out.keep hb)
  have KH := Lib.hid (KH.out.step hb)
  have B := Lib.hid (stepB B.out hb)
  clear hb
  obtain ⟨cd11_00, cd11_01, cd11_02, cd11_03⟩ := P0.out.all
  have ld11_0 := P0.out.lt
  obtain ⟨cc11_00, cc11_01, cc11_02, -, -, -⟩ := KO.out.all
  have ll11_0 := KO.out.lt
  obtain ⟨cc11_10, cc11_11, cc11_12, -, -, -⟩ := KG.out.all
  have ll11_1 := KG.out.lt
  obtain ⟨cc11_20, cc11_21, cc11_22, -, -, -⟩ := KH.out.all
  have ll11_2 := KH.out.lt
  go_wp2_with fail
  go_ret
  exact ⟨rfl, B.out⟩

/-! ### The row's step -/
set_option maxRecDepth 100000 in
theorem lifted (os : Os) (started : os.Started) (H : Type) (enc : TypeId × Value → H) :
    ReturnsInHanded {} Try.checked os 9 .any (Rows.fnExactOpMatrixSpec.pre6 enc Try.prog Try.f9 Rows.fnExactOpMatrixRow.domain false) (Rows.fnExactOpMatrixSpec.post enc Try.prog Try.f9 false true false false) := by
  refine returnsInHanded_of_change (C := Try.checked) own started (by kernel_rfl) Try.func9
    (ChangeSpec.witness6 (enc := enc) (C := Try.checked) false ⟨#[], #[.agg #[.int .i64 0, .int .i64 0, .int .i64 0, .int .i64 0], .int .i64 0], []⟩ 8 (by kernel_rfl) (by kernel_rfl) (by kernel_rfl) (by kernel_rfl)) ?_
  intro W base args ds gs before hval0 hW hcnd _
  have hval : ∀ (j : Nat) t v, Try.f9.params[j]? = some t → args[j]? = some v → Value.okWide Try.prog W .any base t v := hval0
  have hW' := hW
  obtain ⟨p, q, hA0, hV, rfl, hfz, hnd⟩ := hW
  have hA : DataW.TrodAll enc Try.prog W 0 (fun _ => true) true Try.f9.params.toList args.toList ds p := hA0
  rw [Try.params9] at hA hval
  obtain ⟨v0, vs0, d0, ds0, p0, q0, hargs, rfl, rfl, h0, r0⟩ := trodAll_cons hA
  obtain ⟨v1, vs1, d1, ds1, p1, q1, rfl, rfl, rfl, h1, r1⟩ := trodAll_cons r0
  obtain ⟨rfl, rfl, rfl⟩ := trodAll_nil r1
  obtain rfl : args = #[v0, v1] := by cases args; simp_all
  obtain ⟨rfl, rfl⟩ := trodVars_none hV
  have k0 := h0
  have lt0 : ∀ x ∈ p0, x.block < W.heap.size := by obtain ⟨m, hm⟩ := k0; exact DataW.trod_lt m _ _ _ hm
  obtain ⟨c0_0, c0_1, c0_2, c0_3, y0_0, y0_1, y0_2, y0_3, m0, rfl, rfl, rfl, hy0_0, hy0_1, hy0_2, hy0_3⟩ := Joins.open_agg4 Try.underlying41 (by kernel_rfl) cells41 (hval 0 41 v0 rfl rfl) h0
  obtain ⟨a0_0, e0_0, rfl, w0_0⟩ := DataW.trod_int Try.underlying3 hy0_0
  simp only [List.cons.injEq, and_true] at e0_0
  subst e0_0
  obtain ⟨a0_1, e0_1, rfl, w0_1⟩ := DataW.trod_int Try.underlying3 hy0_1
  simp only [List.cons.injEq, and_true] at e0_1
  subst e0_1
  obtain ⟨a0_2, e0_2, rfl, w0_2⟩ := DataW.trod_int Try.underlying3 hy0_2
  simp only [List.cons.injEq, and_true] at e0_2
  subst e0_2
  obtain ⟨a0_3, e0_3, rfl, w0_3⟩ := DataW.trod_int Try.underlying3 hy0_3
  simp only [List.cons.injEq, and_true] at e0_3
  subst e0_3
  have k1 := h1
  have lt1 : ∀ x ∈ p1, x.block < W.heap.size := by obtain ⟨m, hm⟩ := k1; exact DataW.trod_lt m _ _ _ hm
  obtain ⟨a1, rfl, rfl, rfl, w1⟩ := open_int Try.underlying3 (hval 1 3 v1 rfl rfl) h1
  clear hA0 hval0
  refine (walk a0_0 a0_1 a0_2 a0_3 a1 W w0_0 w0_1 w0_2 w0_3 w1).mono fun e W' ⟨he, bel⟩ => ?_
  subst he
  exact ⟨_, rfl, _, _, _, [], _, [], hW', trodAll_mk1 (shut_bool Try.underlying4 _), (trodAll_cons_mk (Below.trod laidOut (by kernel_rfl) (of_decide_eq_true (by kernel_rfl)) k0 bel lt0) (trodAll_cons_mk (Below.trod laidOut (by kernel_rfl) (of_decide_eq_true (by kernel_rfl)) k1 bel lt1) trodAll_mk0)), rfl, bel.frame _, fun h => by cases h⟩

theorem over : Rows.fnExactOpMatrixRow.holds Try.pinned (OpenSpec.ofChange Rows.fnExactOpMatrixSpec) :=
  OpenClaim.holds_of_wide 9 Try.f9 rfl rfl rfl rfl rfl rfl rfl ⟨rfl, rfl, rfl, rfl, rfl⟩ rfl rfl rfl rfl rfl (by kernel_rfl) Try.func9 (by kernel_rfl)
    (of_decide_eq_true (by kernel_rfl)) (by unfold Func.isWrapper; first | (rw [if_pos (by decide +kernel)]; kernel_rfl) | (rw [if_neg (by decide +kernel)]; exact ⟨rfl, rfl⟩))
    (fun os started H enc _ => lifted os started H enc)

/-- ████ THE STATEMENT ████ -/
theorem proved : Rows.FnExactOpMatrixSaid := over
#print axioms proved
end Go.Proofs.Ytiggioccmlbhhaa.fnExactOpMatrix
