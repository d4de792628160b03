/-
  Proved: for every list of operations, the law FnExactUndoRowOps returns true: the program's UndoRowOps answers as the model's, writes into no argument, and its answer owns its memory.
  Conditions: none beyond the row's own (the arguments read as data).
-/
import Derived.Test.YtiggioccmlbhhaaRows
import Derived.ChangeOld
import Derived.Below
import Derived.Test.YtiggioccmlbhhaaMemO
import Derived.Test.YtiggioccmlbhhaaRU2
import Derived.Test.YtiggioccmlbhhaaRoOpen
import Derived.Deep.RegionHeld3
import Derived.Deep.DeepCutAuto
import Derived.WalkKit
import Derived.ProofKit
import Derived.OpenShut
import Derived.ShutString
import Derived.Carry
import Derived.Lib.SmallJoins
namespace Go.Proofs.Ytiggioccmlbhhaa.fnExactUndoRowOps
open Go.ChangeShapes Go.WideShapes Go.ChangeAt Go.RowKit
open Go.ChangeMaps (open_string shut_string)
set_option linter.unusedVariables false

theorem own : ownKnob Try.prog.godebug = none := by kernel_rfl
theorem laidOut : laidOutB Try.prog = true := by kernel_rfl

set_option maxRecDepth 100000 in
set_option maxHeartbeats 4000000 in

theorem walk (a0 : Option Addr) (len0 cap0 : Nat) (l0 : List Ro) (w : World) (w0 : RdO w a0 l0 ∧ l0.length = len0 ∧ len0 ≤ maxLen) :
    Calls Try.prog 11 #[.slice a0 len0 cap0] w fun e w' => e = .returned (.bool true) ∧ Below w.heap.size w w' := by
  obtain ⟨hx, rfl, lm0⟩ := w0
  have HX0 := Lib.hid hx
  clear hx
  have lm0 : l0.length ≤ 9223372036854775807 := by unfold maxLen at lm0; omega
  by_cases bx0 : l0.length ≤ 1048576
  · go_enter Try.func11, Try.ntmps11
    go_wp2_with fail
    have B : Hid (Below w.heap.size w w) := Below.refl _ _
    obtain ⟨rl, hrl⟩ : ∃ rl, undoL l0 l0.length = rl := ⟨_, rfl⟩
    have RN : Hid (rl.length = l0.length) := by rw [← hrl]; exact undoL_length _ _ (Nat.le_refl _)
    have RLH := Lib.hid hrl
    clear hrl
    refine (szO a0 l0.length cap0 1048576 _ (by omega) (by omega)).mono ?_
    rintro e w2 ⟨rfl, hb⟩
    have B := Lib.hid (stepB B.out hb)
    have sw2 := hb.size
    clear hb
    go_wp2_with fail
    refine (toOS a0 cap0 l0 _ (HX0.out.below B.out) (by omega)).mono ?_
    rintro e w3 ⟨rfl, gi, hb⟩
    have B := Lib.hid (stepB B.out hb)
    have sw3 := hb.size
    have I1 := Lib.hid gi
    clear hb gi
    go_wp2_with fail
    refine (sUndoOps (some ⟨w2.heap.size, 0, none⟩) l0.length l0 _ I1.out.rd (by omega)).mono ?_
    rintro e w4 ⟨vO, rfl, own, hb⟩
    rw [RLH.out] at own
    have I1 := Lib.hid (I1.out.keep hb I1.out.lt)
    have B := Lib.hid (stepB B.out hb)
    have sw4 := hb.size
    have O0 : Hid (InO w3.heap.size w4.heap.size w4 vO rl) := InO.of_row own RN.out (by omega)
    obtain ⟨qO, qcO, rfl⟩ := O0.out.form
    clear hb own
    go_wp2_with fail
    clear I1
    refine (toOS a0 cap0 l0 _ (HX0.out.below B.out) (by omega)).mono ?_
    rintro e w5 ⟨rfl, gi, hb⟩
    have O0 := Lib.hid (O0.out.keep hb)
    have B := Lib.hid (stepB B.out hb)
    have sw5 := hb.size
    have X0 : Hid (InO w4.heap.size w5.heap.size w5 (.slice (some ⟨w4.heap.size, 0, none⟩) l0.length l0.length) l0) := InO.of_new (Nat.le_refl _) gi (by omega)
    clear hb gi
    go_wp2_with fail
    refine (iUndoOps (some ⟨w4.heap.size, 0, none⟩) l0.length l0 _ X0.out.rd (by omega)).mono ?_
    rintro e w6 ⟨vG, rfl, own, hb⟩
    rw [RLH.out] at own
    have O0 := Lib.hid (O0.out.keep hb)
    have X0 := Lib.hid (X0.out.keep hb)
    have B := Lib.hid (stepB B.out hb)
    have sw6 := hb.size
    have G0 : Hid (InO w5.heap.size w6.heap.size w6 vG rl) := InO.of_row own RN.out (by omega)
    obtain ⟨qG, qcG, rfl⟩ := G0.out.form
    clear hb own
    go_wp2_with fail
    refine (eqOS qG qO qcG qcO rl _ G0.out.rd O0.out.rd (by have := RN.out; omega)).mono ?_
    rintro e w7 ⟨rfl, hb⟩
    have O0 := Lib.hid (O0.out.keep hb)
    have X0 := Lib.hid (X0.out.keep hb)
    have G0 := Lib.hid (G0.out.keep hb)
    have B := Lib.hid (stepB B.out hb)
    have sw7 := hb.size
    clear hb
    go_wp2_with fail
    refine (toOS a0 cap0 l0 _ (HX0.out.below B.out) (by omega)).mono ?_
    rintro e w8 ⟨rfl, gi, hb⟩
    have O0 := Lib.hid (O0.out.keep hb)
    have X0 := Lib.hid (X0.out.keep hb)
    have G0 := Lib.hid (G0.out.keep hb)
    have B := Lib.hid (stepB B.out hb)
    have sw8 := hb.size
    have I1 := Lib.hid gi
    clear hb gi
    go_wp2_with fail
    refine (eqOS (some ⟨w4.heap.size, 0, none⟩) (some ⟨w7.heap.size, 0, none⟩) l0.length l0.length l0 _ X0.out.rd I1.out.rd (by omega)).mono ?_
    rintro e w9 ⟨rfl, hb⟩
    have O0 := Lib.hid (O0.out.keep hb)
    have X0 := Lib.hid (X0.out.keep hb)
    have G0 := Lib.hid (G0.out.keep hb)
    have I1 := Lib.hid (I1.out.keep hb I1.out.lt)
    have B := Lib.hid (stepB B.out hb)
    have sw9 := hb.size
    clear hb
    go_wp2_with fail
    clear I1
    refine (markInO (some ⟨w4.heap.size, 0, none⟩) l0.length l0 1 _ X0.out (by omega) (by omega)).mono ?_
    rintro e w10 ⟨rfl, inn, hc⟩
    have O0 := Lib.hid (O0.out.chg hc (by omega))
    have G0 := Lib.hid (G0.out.chg hc (by omega))
    have B := Lib.hid (Below.chg B.out hc (by omega) B.out.size)
    have X0 := Lib.hid inn
    clear hc inn
    go_wp2_with fail
    clear X0
    refine (eqOS qG qO qcG qcO rl _ G0.out.rd O0.out.rd (by have := RN.out; omega)).mono ?_
    rintro e w11 ⟨rfl, hb⟩
    have O0 := Lib.hid (O0.out.keep hb)
    have G0 := Lib.hid (G0.out.keep hb)
    have B := Lib.hid (stepB B.out hb)
    have sw11 := hb.size
    clear hb
    go_wp2_with fail
    refine (markInO qG qcG rl 1 _ G0.out (by omega) (by omega)).mono ?_
    rintro e w12 ⟨rfl, inn, hc⟩
    have O0 := Lib.hid (O0.out.chg hc (by omega))
    have B := Lib.hid (Below.chg B.out hc (by omega) B.out.size)
    have G0 := Lib.hid inn
    clear hc inn
    go_wp2_with fail
    refine (heldOS qG qcG rl.length 1 _ G0.out.rd (by have := RN.out; omega) (by omega) (by omega)).mono ?_
    rintro e w13 ⟨rfl, hb⟩
    have O0 := Lib.hid (O0.out.keep hb)
    have G0 := Lib.hid (G0.out.keep hb)
    have B := Lib.hid (stepB B.out hb)
    have sw13 := hb.size
    clear hb
    go_wp2_with fail
    refine (toOS a0 cap0 l0 _ (HX0.out.below B.out) (by omega)).mono ?_
    rintro e w14 ⟨rfl, gi, hb⟩
    have O0 := Lib.hid (O0.out.keep hb)
    have G0 := Lib.hid (G0.out.keep hb)
    have B := Lib.hid (stepB B.out hb)
    have sw14 := hb.size
    have I1 := Lib.hid gi
    clear hb gi
    go_wp2_with fail
    refine (iUndoOps (some ⟨w13.heap.size, 0, none⟩) l0.length l0 _ I1.out.rd (by omega)).mono ?_
    rintro e w15 ⟨vH, rfl, own, hb⟩
    rw [RLH.out] at own
    have O0 := Lib.hid (O0.out.keep hb)
    have G0 := Lib.hid (G0.out.keep hb)
    have I1 := Lib.hid (I1.out.keep hb I1.out.lt)
    have B := Lib.hid (stepB B.out hb)
    have sw15 := hb.size
    have H0 : Hid (InO w14.heap.size w15.heap.size w15 vH rl) := InO.of_row own RN.out (by omega)
    obtain ⟨qH, qcH, rfl⟩ := H0.out.form
    clear hb own
    go_wp2_with fail
    clear I1
    refine (eqOS qH qO qcH qcO rl _ H0.out.rd O0.out.rd (by have := RN.out; omega)).mono ?_
    rintro e w16 ⟨rfl, hb⟩
    have O0 := Lib.hid (O0.out.keep hb)
    have G0 := Lib.hid (G0.out.keep hb)
    have H0 := Lib.hid (H0.out.keep hb)
    have B := Lib.hid (stepB B.out hb)
    have sw16 := hb.size
    clear hb
    go_wp2_with fail
    refine (heldOS qG qcG rl.length 1 _ G0.out.rd (by have := RN.out; omega) (by omega) (by omega)).mono ?_
    rintro e w17 ⟨rfl, hb⟩
    have O0 := Lib.hid (O0.out.keep hb)
    have G0 := Lib.hid (G0.out.keep hb)
    have H0 := Lib.hid (H0.out.keep hb)
    have B := Lib.hid (stepB B.out hb)
    have sw17 := hb.size
    clear hb
    go_wp2_with fail
    go_ret
    exact ⟨rfl, B.out⟩
  · go_enter Try.func11, Try.ntmps11
    go_wp2_with fail
    refine (szO_f a0 l0.length cap0 1048576 _ (by omega) (by omega) (by omega)).mono ?_
    rintro e w2 ⟨rfl, hb⟩
    go_wp2_with fail
    go_ret
    exact ⟨rfl, hb⟩

/-! ### The row's step -/
set_option maxRecDepth 100000 in
theorem lifted (os : Os) (started : os.Started) (H : Type) (enc : TypeId × Value → H) :
    ReturnsInHanded {} Try.checked os 11 .any (Rows.fnExactUndoRowOpsSpec.pre6 enc Try.prog Try.f11 Rows.fnExactUndoRowOpsRow.domain false) (Rows.fnExactUndoRowOpsSpec.post enc Try.prog Try.f11 false true false false) := by
  refine returnsInHanded_of_change (C := Try.checked) own started (by kernel_rfl) Try.func11
    (ChangeSpec.witness6 (enc := enc) (C := Try.checked) false ⟨#[], #[.slice none 0 0], []⟩ 8 (by kernel_rfl) (by kernel_rfl) (by kernel_rfl) (by kernel_rfl)) ?_
  intro W base args ds gs before hval0 hW hcnd _
  have hval : ∀ (j : Nat) t v, Try.f11.params[j]? = some t → args[j]? = some v → Value.okWide Try.prog W .any base t v := hval0
  have hW' := hW
  obtain ⟨p, q, hA0, hV, rfl, hfz, hnd⟩ := hW
  have hA : DataW.TrodAll enc Try.prog W 0 (fun _ => true) true Try.f11.params.toList args.toList ds p := hA0
  rw [Try.params11] at hA hval
  obtain ⟨v0, vs0, d0, ds0, p0, q0, hargs, rfl, rfl, h0, r0⟩ := trodAll_cons hA
  obtain ⟨rfl, rfl, rfl⟩ := trodAll_nil r0
  obtain rfl : args = #[v0] := by cases args; simp_all
  obtain ⟨rfl, rfl⟩ := trodVars_none hV
  have k0 := h0
  have lt0 : ∀ x ∈ p0, x.block < W.heap.size := by obtain ⟨m, hm⟩ := k0; exact DataW.trod_lt m _ _ _ hm
  obtain ⟨a0, len0, cap0, rfl⟩ := okWide_slice Try.underlying52 (hval 0 52 v0 rfl rfl)
  obtain ⟨fuel0, hf0⟩ := h0
  obtain ⟨l0, w0⟩ := rdO_of (by simpa [Value.cells] using hf0)
  clear hA0 hval0
  refine (walk a0 len0 cap0 l0 W w0).mono fun e W' ⟨he, bel⟩ => ?_
  subst he
  exact ⟨_, rfl, _, _, _, [], _, [], hW', trodAll_mk1 (shut_bool Try.underlying4 _), (trodAll_cons_mk (Below.trod laidOut (by kernel_rfl) (of_decide_eq_true (by kernel_rfl)) k0 bel lt0) trodAll_mk0), rfl, bel.frame _, fun h => by cases h⟩

theorem over : Rows.fnExactUndoRowOpsRow.holds Try.pinned (OpenSpec.ofChange Rows.fnExactUndoRowOpsSpec) :=
  OpenClaim.holds_of_wide 11 Try.f11 rfl rfl rfl rfl rfl rfl rfl ⟨rfl, rfl, rfl, rfl, rfl⟩ rfl rfl rfl rfl rfl (by kernel_rfl) Try.func11 (by kernel_rfl)
    (of_decide_eq_true (by kernel_rfl)) (by unfold Func.isWrapper; first | (rw [if_pos (by decide +kernel)]; kernel_rfl) | (rw [if_neg (by decide +kernel)]; exact ⟨rfl, rfl⟩))
    (fun os started H enc _ => lifted os started H enc)

/-- ████ THE STATEMENT ████ -/
theorem proved : Rows.FnExactUndoRowOpsSaid := over
#print axioms proved
end Go.Proofs.Ytiggioccmlbhhaa.fnExactUndoRowOps
