/-
  Proved: for every operation and number of rows, the law FnExactIsRowOp returns true: the program's IsRowOp answers as the model's, and writes into no argument.
  Conditions: none beyond the row's own (the arguments read as data).
-/
import Derived.Test.YtiggioccmlbhhaaRows
import Derived.ChangeOld
import Derived.Below
import Derived.Test.YtiggioccmlbhhaaMem
import Derived.Test.YtiggioccmlbhhaaLawRo
import Derived.Test.YtiggioccmlbhhaaRI2
import Derived.Deep.RegionHeld3
import Derived.Deep.DeepCutAuto
import Derived.WalkKit
import Derived.ProofKit
import Derived.OpenShut
import Derived.ShutString
import Derived.Carry
import Derived.Lib.SmallJoins
namespace Go.Proofs.Ytiggioccmlbhhaa.fnExactIsRowOp
open Go.ChangeShapes Go.WideShapes Go.ChangeAt Go.RowKit
open Go.ChangeMaps (open_string shut_string)
set_option linter.unusedVariables false

theorem own : ownKnob Try.prog.godebug = none := by kernel_rfl
theorem laidOut : laidOutB Try.prog = true := by kernel_rfl
theorem cells41 : Try.prog.cellsOf 41 = 4 := by kernel_rfl
set_option maxRecDepth 100000 in
set_option maxHeartbeats 4000000 in

theorem walk (a0_0 : Int) (a0_1 : Int) (a0_2 : Int) (a0_3 : Int) (a1 : Int) (w : World) (w0_0 : (Lit.int .i64 a0_0).wf = true) (w0_1 : (Lit.int .i64 a0_1).wf = true) (w0_2 : (Lit.int .i64 a0_2).wf = true) (w0_3 : (Lit.int .i64 a0_3).wf = true) (w1 : (Lit.int .i64 a1).wf = true) :
    Calls Try.prog 6 #[.agg #[.int .i64 a0_0, .int .i64 a0_1, .int .i64 a0_2, .int .i64 a0_3], .int .i64 a1] w fun e w' => e = .returned (.bool true) ∧ Below w.heap.size w w' := by
  obtain ⟨pv, hpv⟩ : ∃ pv, isOp a0_0 a0_1 a0_2 a0_3 a1 = pv := ⟨_, rfl⟩
  have PVH := Lib.hid hpv
  clear hpv
  go_enter Try.func6, Try.ntmps6
  go_wp2_with fail
  refine (toRo ⟨a0_0, a0_1, a0_2, a0_3⟩ _).mono ?_
  rintro e w2 ⟨rfl, hb⟩
  have P : Hid (Blk4 w2 w.heap.size 41 (.int .i64 a0_0) (.int .i64 a0_1) (.int .i64 a0_2) (.int .i64 a0_3)) := (Blk4.at_ _ _ _ _ _ rfl).keep hb (by simp)
  have B : Hid (Below w.heap.size w w2) := ((Below.refl _ _).alloc (Nat.le_refl _) _).trans (hb.mono (by simp))
  clear hb
  obtain ⟨cc1_00, cc1_01, cc1_02, cc1_03⟩ := P.out.all
  have ll1_0 := P.out.lt
  go_wp2_with fail
  refine (sIsOp a0_0 a0_1 a0_2 a0_3 a1 _).mono ?_
  rintro e w3 ⟨rfl, hb⟩
  have P := Lib.hid (P.out.step hb)
  have B := Lib.hid (stepB B.out hb)
  clear hb
  obtain ⟨cc2_00, cc2_01, cc2_02, cc2_03⟩ := P.out.all
  have ll2_0 := P.out.lt
  rw [PVH.out]
  go_wp2_with fail
  refine (toRo ⟨a0_0, a0_1, a0_2, a0_3⟩ _).mono ?_
  rintro e w4 ⟨rfl, hb⟩
  have P := Lib.hid (P.out.step hb)
  have B := Lib.hid (stepB B.out hb)
  clear hb
  obtain ⟨cc3_00, cc3_01, cc3_02, cc3_03⟩ := P.out.all
  have ll3_0 := P.out.lt
  go_wp2_with fail
  refine (iIsOp a0_0 a0_1 a0_2 a0_3 a1 _).mono ?_
  rintro e w5 ⟨rfl, hb⟩
  have P := Lib.hid (P.out.step hb)
  have B := Lib.hid (stepB B.out hb)
  clear hb
  obtain ⟨cc4_00, cc4_01, cc4_02, cc4_03⟩ := P.out.all
  have ll4_0 := P.out.lt
  rw [PVH.out]
  go_wp2_with fail
  go_ret
  exact ⟨rfl, B.out⟩

/-! ### The row's step -/
set_option maxRecDepth 100000 in
theorem lifted (os : Os) (started : os.Started) (H : Type) (enc : TypeId × Value → H) :
    ReturnsInHanded {} Try.checked os 6 .any (Rows.fnExactIsRowOpSpec.pre6 enc Try.prog Try.f6 Rows.fnExactIsRowOpRow.domain false) (Rows.fnExactIsRowOpSpec.post enc Try.prog Try.f6 false true false false) := by
  refine returnsInHanded_of_change (C := Try.checked) own started (by kernel_rfl) Try.func6
    (ChangeSpec.witness6 (enc := enc) (C := Try.checked) false ⟨#[], #[.agg #[.int .i64 0, .int .i64 0, .int .i64 0, .int .i64 0], .int .i64 0], []⟩ 8 (by kernel_rfl) (by kernel_rfl) (by kernel_rfl) (by kernel_rfl)) ?_
  intro W base args ds gs before hval0 hW hcnd _
  have hval : ∀ (j : Nat) t v, Try.f6.params[j]? = some t → args[j]? = some v → Value.okWide Try.prog W .any base t v := hval0
  have hW' := hW
  obtain ⟨p, q, hA0, hV, rfl, hfz, hnd⟩ := hW
  have hA : DataW.TrodAll enc Try.prog W 0 (fun _ => true) true Try.f6.params.toList args.toList ds p := hA0
  rw [Try.params6] at hA hval
  obtain ⟨v0, vs0, d0, ds0, p0, q0, hargs, rfl, rfl, h0, r0⟩ := trodAll_cons hA
  obtain ⟨v1, vs1, d1, ds1, p1, q1, rfl, rfl, rfl, h1, r1⟩ := trodAll_cons r0
  obtain ⟨rfl, rfl, rfl⟩ := trodAll_nil r1
  obtain rfl : args = #[v0, v1] := by cases args; simp_all
  obtain ⟨rfl, rfl⟩ := trodVars_none hV
  have k0 := h0
  have lt0 : ∀ x ∈ p0, x.block < W.heap.size := by obtain ⟨m, hm⟩ := k0; exact DataW.trod_lt m _ _ _ hm
  obtain ⟨c0_0, c0_1, c0_2, c0_3, y0_0, y0_1, y0_2, y0_3, m0, rfl, rfl, rfl, hy0_0, hy0_1, hy0_2, hy0_3⟩ := Joins.open_agg4 Try.underlying41 (by kernel_rfl) cells41 (hval 0 41 v0 rfl rfl) h0
  obtain ⟨a0_0, e0_0, rfl, w0_0⟩ := DataW.trod_int Try.underlying3 hy0_0
  simp only [List.cons.injEq, and_true] at e0_0
  subst e0_0
  obtain ⟨a0_1, e0_1, rfl, w0_1⟩ := DataW.trod_int Try.underlying3 hy0_1
  simp only [List.cons.injEq, and_true] at e0_1
  subst e0_1
  obtain ⟨a0_2, e0_2, rfl, w0_2⟩ := DataW.trod_int Try.underlying3 hy0_2
  simp only [List.cons.injEq, and_true] at e0_2
  subst e0_2
  obtain ⟨a0_3, e0_3, rfl, w0_3⟩ := DataW.trod_int Try.underlying3 hy0_3
  simp only [List.cons.injEq, and_true] at e0_3
  subst e0_3
  have k1 := h1
  have lt1 : ∀ x ∈ p1, x.block < W.heap.size := by obtain ⟨m, hm⟩ := k1; exact DataW.trod_lt m _ _ _ hm
  obtain ⟨a1, rfl, rfl, rfl, w1⟩ := open_int Try.underlying3 (hval 1 3 v1 rfl rfl) h1
  clear hA0 hval0
  refine (walk a0_0 a0_1 a0_2 a0_3 a1 W w0_0 w0_1 w0_2 w0_3 w1).mono fun e W' ⟨he, bel⟩ => ?_
  subst he
  exact ⟨_, rfl, _, _, _, [], _, [], hW', trodAll_mk1 (shut_bool Try.underlying4 _), (trodAll_cons_mk (Below.trod laidOut (by kernel_rfl) (of_decide_eq_true (by kernel_rfl)) k0 bel lt0) (trodAll_cons_mk (Below.trod laidOut (by kernel_rfl) (of_decide_eq_true (by kernel_rfl)) k1 bel lt1) trodAll_mk0)), rfl, bel.frame _, fun h => by cases h⟩

theorem over : Rows.fnExactIsRowOpRow.holds Try.pinned (OpenSpec.ofChange Rows.fnExactIsRowOpSpec) :=
  OpenClaim.holds_of_wide 6 Try.f6 rfl rfl rfl rfl rfl rfl rfl ⟨rfl, rfl, rfl, rfl, rfl⟩ rfl rfl rfl rfl rfl (by kernel_rfl) Try.func6 (by kernel_rfl)
    (of_decide_eq_true (by kernel_rfl)) (by unfold Func.isWrapper; first | (rw [if_pos (by decide +kernel)]; kernel_rfl) | (rw [if_neg (by decide +kernel)]; exact ⟨rfl, rfl⟩))
    (fun os started H enc _ => lifted os started H enc)

/-- ████ THE STATEMENT ████ -/
theorem proved : Rows.FnExactIsRowOpSaid := over
#print axioms proved
end Go.Proofs.Ytiggioccmlbhhaa.fnExactIsRowOp
