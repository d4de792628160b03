/-
  Proved: for every number, the law FnExactIdentityMatrix returns true: the program's IdentityMatrix answers as the model's, writes into no argument, and its answer owns its memory.
  Conditions: none beyond the row's own (the arguments read as data).
-/
import Derived.Test.YtpladgojeijihaaRows
import Derived.ChangeOld
import Derived.Below
import Derived.Test.YtpladgojeijihaaMem
import Derived.Test.YtpladgojeijihaaMatI3
import Derived.Deep.RegionHeld3
import Derived.Deep.DeepCutAuto
import Derived.WalkKit
import Derived.ProofKit
import Derived.OpenShut
import Derived.ShutString
import Derived.Carry
import Derived.Lib.SmallJoins
namespace Go.Proofs.Ytpladgojeijihaa.fnExactIdentityMatrix
open Go.ChangeShapes Go.WideShapes Go.ChangeAt Go.RowKit
open Go.ChangeMaps (open_string shut_string)
set_option linter.unusedVariables false

theorem own : ownKnob Try.prog.godebug = none := by kernel_rfl
theorem laidOut : laidOutB Try.prog = true := by kernel_rfl

set_option maxRecDepth 100000 in
set_option maxHeartbeats 8000000 in

theorem walk (a0 : Int) (w : World) (w0 : (Lit.int .i64 a0).wf = true) :
    Calls Try.prog 6 #[.int .i64 a0] w fun e w' => e = .returned (.bool true) ∧ Below w.heap.size w w' := by
  go_enter Try.func6, Try.ntmps6
  go_wp2_with fail
  have B : Hid (Below w.heap.size w w) := Below.refl _ _
  obtain ⟨mr, hmr⟩ : ∃ mr, idM a0 = mr := ⟨_, rfl⟩
  have MRH := Lib.hid hmr
  clear hmr
  refine (sIdent a0 _).mono ?_
  rintro e w2 ⟨vO, rfl, own, hb⟩
  rw [MRH.out] at own ⊢
  obtain ⟨qO, qcO, rfl, -, -⟩ := own.form
  have B := Lib.hid (stepB B.out hb)
  have O0 : Hid (In w.heap.size w2.heap.size w2 (.slice qO mr.zs.length qcO) mr.zs) := by have := own.inn; (try simp at this); exact this
  have sw2 : w.heap.size ≤ w2.heap.size := by have := hb.size; simpa using this
  have KO : Hid (Blk3 (w2.alloc (.cells #[.int .i64 mr.r, .int .i64 mr.c, .slice qO mr.zs.length qcO] 26)) w2.heap.size 26 (.int .i64 mr.r) (.int .i64 mr.c) (.slice qO mr.zs.length qcO)) := Blk3.at_ _ _ _ _ rfl
  have szO := own.small
  clear hb own
  go_wp2_with fail
  refine (iIdent a0 _).mono ?_
  rintro e w3 ⟨vG, rfl, own, hb⟩
  rw [MRH.out] at own ⊢
  obtain ⟨qG, qcG, rfl, -, -⟩ := own.form
  have KO := Lib.hid (KO.out.step hb)
  have O0 := Lib.hid ((O0.out.old _).keep hb)
  have B := Lib.hid (stepB (B.out.alloc B.out.size _) hb)
  have G0 : Hid (In (w2.heap.size + 1) w3.heap.size w3 (.slice qG mr.zs.length qcG) mr.zs) := by have := own.inn; (try simp at this); exact this
  have sw3 : (w2.heap.size + 1) ≤ w3.heap.size := by have := hb.size; simpa using this
  have KG : Hid (Blk3 (w3.alloc (.cells #[.int .i64 mr.r, .int .i64 mr.c, .slice qG mr.zs.length qcG] 26)) w3.heap.size 26 (.int .i64 mr.r) (.int .i64 mr.c) (.slice qG mr.zs.length qcG)) := Blk3.at_ _ _ _ _ rfl
  have szG := own.small
  clear hb own
  obtain ⟨cc2_00, cc2_01, cc2_02, -, -, -⟩ := KO.out.all
  have ll2_0 := KO.out.lt
  go_wp2_with fail
  refine (eqM_t mr.r mr.c qG qO qcG qcO mr.zs _ (G0.out.old _).rd.2.1 (O0.out.old _).rd.2.1 szG).mono ?_
  rintro e w4 ⟨rfl, hb⟩
  have KG := Lib.hid (KG.out.step hb)
  have O0 := Lib.hid ((O0.out.old _).keep hb)
  have KO := Lib.hid ((KO.out.old _).step hb)
  have G0 := Lib.hid ((G0.out.old _).keep hb)
  have B := Lib.hid (stepB (B.out.alloc B.out.size _) hb)
  clear hb
  obtain ⟨cc3_00, cc3_01, cc3_02, -, -, -⟩ := KO.out.all
  have ll3_0 := KO.out.lt
  obtain ⟨cc3_10, cc3_11, cc3_12, -, -, -⟩ := KG.out.all
  have ll3_1 := KG.out.lt
  go_wp2_with fail
  refine (markIn mr.r mr.c qG mr.zs.length qcG mr.zs 1 _ G0.out (by omega) (by omega)).mono ?_
  rintro e w5 ⟨rfl, inn, hc⟩
  have O0 := Lib.hid (O0.out.chg hc (by omega))
  have KO := Lib.hid (KO.out.chg hc (by omega))
  have KG := Lib.hid (KG.out.chg hc (by omega))
  have B := Lib.hid (Below.chg B.out hc (by omega) B.out.size)
  have G0 := Lib.hid inn
  clear hc inn
  obtain ⟨cc4_00, cc4_01, cc4_02, -, -, -⟩ := KO.out.all
  have ll4_0 := KO.out.lt
  obtain ⟨cc4_10, cc4_11, cc4_12, -, -, -⟩ := KG.out.all
  have ll4_1 := KG.out.lt
  go_wp2_with fail
  refine (heldM mr.r mr.c qG qcG mr.zs.length 1 _ G0.out.rd.2.1 szG (by omega) (by omega)).mono ?_
  rintro e w6 ⟨rfl, hb⟩
  have O0 := Lib.hid (O0.out.keep hb)
  have KO := Lib.hid (KO.out.step hb)
  have KG := Lib.hid (KG.out.step hb)
  have G0 := Lib.hid (G0.out.keep hb)
  have B := Lib.hid (stepB B.out hb)
  clear hb
  obtain ⟨cc5_00, cc5_01, cc5_02, -, -, -⟩ := KO.out.all
  have ll5_0 := KO.out.lt
  obtain ⟨cc5_10, cc5_11, cc5_12, -, -, -⟩ := KG.out.all
  have ll5_1 := KG.out.lt
  go_wp2_with fail
  refine (iIdent a0 _).mono ?_
  rintro e w7 ⟨vH, rfl, own, hb⟩
  rw [MRH.out] at own ⊢
  obtain ⟨qH, qcH, rfl, -, -⟩ := own.form
  have O0 := Lib.hid (O0.out.keep hb)
  have KO := Lib.hid (KO.out.step hb)
  have KG := Lib.hid (KG.out.step hb)
  have G0 := Lib.hid (G0.out.keep hb)
  have B := Lib.hid (stepB B.out hb)
  have H0 : Hid (In w6.heap.size w7.heap.size w7 (.slice qH mr.zs.length qcH) mr.zs) := by have := own.inn; (try simp at this); exact this
  have sw7 : w6.heap.size ≤ w7.heap.size := by have := hb.size; simpa using this
  have KH : Hid (Blk3 (w7.alloc (.cells #[.int .i64 mr.r, .int .i64 mr.c, .slice qH mr.zs.length qcH] 26)) w7.heap.size 26 (.int .i64 mr.r) (.int .i64 mr.c) (.slice qH mr.zs.length qcH)) := Blk3.at_ _ _ _ _ rfl
  have szH := own.small
  clear hb own
  obtain ⟨cc6_00, cc6_01, cc6_02, -, -, -⟩ := KO.out.all
  have ll6_0 := KO.out.lt
  obtain ⟨cc6_10, cc6_11, cc6_12, -, -, -⟩ := KG.out.all
  have ll6_1 := KG.out.lt
  go_wp2_with fail
  refine (eqM_t mr.r mr.c qH qO qcH qcO mr.zs _ (H0.out.old _).rd.2.1 (O0.out.old _).rd.2.1 szH).mono ?_
  rintro e w8 ⟨rfl, hb⟩
  have KH := Lib.hid (KH.out.step hb)
  have O0 := Lib.hid ((O0.out.old _).keep hb)
  have KO := Lib.hid ((KO.out.old _).step hb)
  have KG := Lib.hid ((KG.out.old _).step hb)
  have G0 := Lib.hid ((G0.out.old _).keep hb)
  have H0 := Lib.hid ((H0.out.old _).keep hb)
  have B := Lib.hid (stepB (B.out.alloc B.out.size _) hb)
  clear hb
  obtain ⟨cc7_00, cc7_01, cc7_02, -, -, -⟩ := KO.out.all
  have ll7_0 := KO.out.lt
  obtain ⟨cc7_10, cc7_11, cc7_12, -, -, -⟩ := KG.out.all
  have ll7_1 := KG.out.lt
  obtain ⟨cc7_20, cc7_21, cc7_22, -, -, -⟩ := KH.out.all
  have ll7_2 := KH.out.lt
  go_wp2_with fail
  refine (heldM mr.r mr.c qG qcG mr.zs.length 1 _ G0.out.rd.2.1 szG (by omega) (by omega)).mono ?_
  rintro e w9 ⟨rfl, hb⟩
  have O0 := Lib.hid (O0.out.keep hb)
  have KO := Lib.hid (KO.out.step hb)
  have KG := Lib.hid (KG.out.step hb)
  have G0 := Lib.hid (G0.out.keep hb)
  have H0 := Lib.hid (H0.out.keep hb)
  have KH := Lib.hid (KH.out.step hb)
  have B := Lib.hid (stepB B.out hb)
  clear hb
  obtain ⟨cc8_00, cc8_01, cc8_02, -, -, -⟩ := KO.out.all
  have ll8_0 := KO.out.lt
  obtain ⟨cc8_10, cc8_11, cc8_12, -, -, -⟩ := KG.out.all
  have ll8_1 := KG.out.lt
  obtain ⟨cc8_20, cc8_21, cc8_22, -, -, -⟩ := KH.out.all
  have ll8_2 := KH.out.lt
  go_wp2_with fail
  go_ret
  exact ⟨rfl, B.out⟩

/-! ### The row's step -/
set_option maxRecDepth 100000 in
theorem lifted (os : Os) (started : os.Started) (H : Type) (enc : TypeId × Value → H) :
    ReturnsInHanded {} Try.checked os 6 .any (Rows.fnExactIdentityMatrixSpec.pre6 enc Try.prog Try.f6 Rows.fnExactIdentityMatrixRow.domain false) (Rows.fnExactIdentityMatrixSpec.post enc Try.prog Try.f6 false true false false) := by
  refine returnsInHanded_of_change (C := Try.checked) own started (by kernel_rfl) Try.func6
    (ChangeSpec.witness6 (enc := enc) (C := Try.checked) false ⟨#[], #[.int .i64 0], []⟩ 8 (by kernel_rfl) (by kernel_rfl) (by kernel_rfl) (by kernel_rfl)) ?_
  intro W base args ds gs before hval0 hW hcnd _
  have hval : ∀ (j : Nat) t v, Try.f6.params[j]? = some t → args[j]? = some v → Value.okWide Try.prog W .any base t v := hval0
  have hW' := hW
  obtain ⟨p, q, hA0, hV, rfl, hfz, hnd⟩ := hW
  have hA : DataW.TrodAll enc Try.prog W 0 (fun _ => true) true Try.f6.params.toList args.toList ds p := hA0
  rw [Try.params6] at hA hval
  obtain ⟨v0, vs0, d0, ds0, p0, q0, hargs, rfl, rfl, h0, r0⟩ := trodAll_cons hA
  obtain ⟨rfl, rfl, rfl⟩ := trodAll_nil r0
  obtain rfl : args = #[v0] := by cases args; simp_all
  obtain ⟨rfl, rfl⟩ := trodVars_none hV
  have k0 := h0
  have lt0 : ∀ x ∈ p0, x.block < W.heap.size := by obtain ⟨m, hm⟩ := k0; exact DataW.trod_lt m _ _ _ hm
  obtain ⟨a0, rfl, rfl, rfl, w0⟩ := open_int Try.underlying3 (hval 0 3 v0 rfl rfl) h0
  clear hA0 hval0
  refine (walk a0 W w0).mono fun e W' ⟨he, bel⟩ => ?_
  subst he
  exact ⟨_, rfl, _, _, _, [], _, [], hW', trodAll_mk1 (shut_bool Try.underlying4 _), (trodAll_cons_mk (Below.trod laidOut (by kernel_rfl) (of_decide_eq_true (by kernel_rfl)) k0 bel lt0) trodAll_mk0), rfl, bel.frame _, fun h => by cases h⟩

theorem over : Rows.fnExactIdentityMatrixRow.holds Try.pinned (OpenSpec.ofChange Rows.fnExactIdentityMatrixSpec) :=
  OpenClaim.holds_of_wide 6 Try.f6 rfl rfl rfl rfl rfl rfl rfl ⟨rfl, rfl, rfl, rfl, rfl⟩ rfl rfl rfl rfl rfl (by kernel_rfl) Try.func6 (by kernel_rfl)
    (of_decide_eq_true (by kernel_rfl)) (by unfold Func.isWrapper; first | (rw [if_pos (by decide +kernel)]; kernel_rfl) | (rw [if_neg (by decide +kernel)]; exact ⟨rfl, rfl⟩))
    (fun os started H enc _ => lifted os started H enc)

/-- ████ THE STATEMENT ████ -/
theorem proved : Rows.FnExactIdentityMatrixSaid := over
#print axioms proved
end Go.Proofs.Ytpladgojeijihaa.fnExactIdentityMatrix
