/-
  Proved: for every ratio, whatever it holds, the law FnExactNegateRatio returns true: the program's NegateRatio answers as the model's.
  Conditions: none beyond the row's own (the arguments read as data).
-/
import Derived.Test.YtgoephocgefokaaRows
import Derived.ChangeOld
import Derived.Below
import Derived.Test.YtgoephocgefokaaRatLaw
import Derived.Test.YtgoephocgefokaaRatRest
import Derived.WalkKit
import Derived.ProofKit
import Derived.OpenShut
import Derived.ShutString
import Derived.Carry
import Derived.Lib.SmallJoins
namespace Go.Proofs.Ytgoephocgefokaa.fnExactNegateRatio
open Go.ChangeShapes Go.WideShapes Go.ChangeAt Go.RowKit
open Go.ChangeMaps (open_string shut_string)
set_option linter.unusedVariables false

theorem own : ownKnob Try.prog.godebug = none := by kernel_rfl
theorem laidOut : laidOutB Try.prog = true := by kernel_rfl
theorem cells23 : Try.prog.cellsOf 23 = 2 := by kernel_rfl

theorem walk (a0_0 : Int) (a0_1 : Int) (w : World) (w0_0 : (Lit.int .i64 a0_0).wf = true) (w0_1 : (Lit.int .i64 a0_1).wf = true) :
    Calls Try.prog 6 #[.agg #[.int .i64 a0_0, .int .i64 a0_1]] w fun e w' => e = .returned (.bool true) ∧ Below w.heap.size w w' := by
  go_enter Try.func6, Try.ntmps6
  go_wp2_with fail
  refine (toRat a0_0 a0_1 _).mono ?_
  rintro e w1 ⟨rfl, hb⟩
  have A0 : Hid (Blk2 w1 w.heap.size 23 (.int .i64 a0_0) (.int .i64 a0_1)) := (Blk2.at_ _ _ _ rfl).keep hb (by simp)
  have B : Hid (Below w.heap.size w w1) := ((Below.refl _ _).alloc (Nat.le_refl _) _).trans (hb.mono (by simp))
  obtain ⟨ca1, cb1, -, -⟩ := A0.out.all
  have la1 := A0.out.lt
  clear hb
  go_wp2_with fail
  refine (sNeg a0_0 a0_1 _).mono ?_
  rintro e w2 ⟨rfl, hb⟩
  have A0 := Lib.hid (A0.out.keep hb A0.out.lt)
  have B := Lib.hid (B.out.trans (hb.mono B.out.size))
  obtain ⟨ca2, cb2, -, -⟩ := A0.out.all
  have la2 := A0.out.lt
  clear hb
  unfold ratV
  go_wp2_with fail
  refine (toRat a0_0 a0_1 _).mono ?_
  rintro e w3 ⟨rfl, hb⟩
  have A0 : Hid (Blk2 w3 w.heap.size 23 (.int .i64 a0_0) (.int .i64 a0_1)) := (A0.out.old _).keep hb (by have := A0.out.lt; simp; omega)
  have R0 : Hid (Blk2 w3 w2.heap.size 25 (.int .i64 (negR a0_0 a0_1).1) (.int .i64 (negR a0_0 a0_1).2)) := (Blk2.at_ _ _ _ rfl).keep hb (by simp)
  have B : Hid (Below w.heap.size w w3) := (B.out.alloc B.out.size _).trans (hb.mono (by have := B.out.size; simp; omega))
  obtain ⟨ca3, cb3, -, -⟩ := A0.out.all
  have la3 := A0.out.lt
  obtain ⟨ra3, rb3, -, -⟩ := R0.out.all
  have lr3 := R0.out.lt
  clear hb
  go_wp2_with fail
  refine (iNeg a0_0 a0_1 _).mono ?_
  rintro e w4 ⟨rfl, hb⟩
  have A0 := Lib.hid (A0.out.keep hb A0.out.lt)
  have R0 := Lib.hid (R0.out.keep hb R0.out.lt)
  have B := Lib.hid (B.out.trans (hb.mono B.out.size))
  obtain ⟨ca4, cb4, -, -⟩ := A0.out.all
  have la4 := A0.out.lt
  obtain ⟨ra4, rb4, -, -⟩ := R0.out.all
  have lr4 := R0.out.lt
  clear hb
  unfold ratV
  go_wp2_with fail
  refine (eqRat_t _ _ _).mono ?_
  rintro e w5 ⟨rfl, hb⟩
  have B : Hid (Below w.heap.size w w5) := (B.out.alloc B.out.size _).trans (hb.mono (by have := B.out.size; simp; omega))
  clear hb
  go_wp2_with fail
  go_ret
  exact ⟨rfl, B.out⟩

/-! ### The row's step -/
set_option maxRecDepth 100000 in
theorem lifted (os : Os) (started : os.Started) (H : Type) (enc : TypeId × Value → H) :
    ReturnsInHanded {} Try.checked os 6 .any (Rows.fnExactNegateRatioSpec.pre6 enc Try.prog Try.f6 Rows.fnExactNegateRatioRow.domain false) (Rows.fnExactNegateRatioSpec.post enc Try.prog Try.f6 false true false false) := by
  refine returnsInHanded_of_change (C := Try.checked) own started (by kernel_rfl) Try.func6
    (ChangeSpec.witness6 (enc := enc) (C := Try.checked) false ⟨#[], #[.agg #[.int .i64 0, .int .i64 0]], []⟩ 8 (by kernel_rfl) (by kernel_rfl) (by kernel_rfl) (by kernel_rfl)) ?_
  intro W base args ds gs before hval0 hW hcnd _
  have hval : ∀ (j : Nat) t v, Try.f6.params[j]? = some t → args[j]? = some v → Value.okWide Try.prog W .any base t v := hval0
  have hW' := hW
  obtain ⟨p, q, hA0, hV, rfl, hfz, hnd⟩ := hW
  have hA : DataW.TrodAll enc Try.prog W 0 (fun _ => true) true Try.f6.params.toList args.toList ds p := hA0
  rw [Try.params6] at hA hval
  obtain ⟨v0, vs0, d0, ds0, p0, q0, hargs, rfl, rfl, h0, r0⟩ := trodAll_cons hA
  obtain ⟨rfl, rfl, rfl⟩ := trodAll_nil r0
  obtain rfl : args = #[v0] := by cases args; simp_all
  obtain ⟨rfl, rfl⟩ := trodVars_none hV
  have k0 := h0
  have lt0 : ∀ x ∈ p0, x.block < W.heap.size := by obtain ⟨m, hm⟩ := k0; exact DataW.trod_lt m _ _ _ hm
  obtain ⟨c0_0, c0_1, y0_0, y0_1, m0, rfl, rfl, rfl, hy0_0, hy0_1⟩ := Joins.open_agg2 Try.underlying23 (by kernel_rfl) cells23 (hval 0 23 v0 rfl rfl) h0
  obtain ⟨a0_0, e0_0, rfl, w0_0⟩ := DataW.trod_int Try.underlying3 hy0_0
  simp only [List.cons.injEq, and_true] at e0_0
  subst e0_0
  obtain ⟨a0_1, e0_1, rfl, w0_1⟩ := DataW.trod_int Try.underlying3 hy0_1
  simp only [List.cons.injEq, and_true] at e0_1
  subst e0_1
  clear hA0 hval0
  refine (walk a0_0 a0_1 W w0_0 w0_1).mono fun e W' ⟨he, bel⟩ => ?_
  subst he
  exact ⟨_, rfl, _, _, _, [], _, [], hW', trodAll_mk1 (shut_bool Try.underlying4 _), (trodAll_cons_mk (Below.trod laidOut (by kernel_rfl) (of_decide_eq_true (by kernel_rfl)) k0 bel lt0) trodAll_mk0), rfl, bel.frame _, fun h => by cases h⟩

theorem over : Rows.fnExactNegateRatioRow.holds Try.pinned (OpenSpec.ofChange Rows.fnExactNegateRatioSpec) :=
  OpenClaim.holds_of_wide 6 Try.f6 rfl rfl rfl rfl rfl rfl rfl ⟨rfl, rfl, rfl, rfl, rfl⟩ rfl rfl rfl rfl rfl (by kernel_rfl) Try.func6 (by kernel_rfl)
    (of_decide_eq_true (by kernel_rfl)) (by unfold Func.isWrapper; first | (rw [if_pos (by decide +kernel)]; kernel_rfl) | (rw [if_neg (by decide +kernel)]; exact ⟨rfl, rfl⟩))
    (fun os started H enc _ => lifted os started H enc)

/-- ████ THE STATEMENT ████ -/
theorem proved : Rows.FnExactNegateRatioSaid := over
#print axioms proved
end Go.Proofs.Ytgoephocgefokaa.fnExactNegateRatio
