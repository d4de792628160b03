/-
  Proved: for every ratio, whatever it holds, and all ints, the law FnExactResidueOf returns true: the program's ResidueOf answers as the model's.
  Conditions: none beyond the row's own (the arguments read as data).
-/
import Derived.Test.YtkphlfcbinjknaaRows
import Derived.ChangeOld
import Derived.Below
import Derived.Test.YtkphlfcbinjknaaRcI
import Derived.Test.YtkphlfcbinjknaaRatLaw
import Derived.Deep.RegionHeld3
import Derived.Deep.DeepCutAuto
import Derived.WalkKit
import Derived.ProofKit
import Derived.OpenShut
import Derived.ShutString
import Derived.Carry
import Derived.Lib.SmallJoins
namespace Go.Proofs.Ytkphlfcbinjknaa.fnExactResidueOf
open Go.ChangeShapes Go.WideShapes Go.ChangeAt Go.RowKit
open Go.ChangeMaps (open_string shut_string)
set_option linter.unusedVariables false

theorem own : ownKnob Try.prog.godebug = none := by kernel_rfl
theorem laidOut : laidOutB Try.prog = true := by kernel_rfl
theorem cells34 : Try.prog.cellsOf 34 = 2 := by kernel_rfl
set_option maxRecDepth 100000 in
set_option maxHeartbeats 4000000 in

theorem walk (a0_0 : Int) (a0_1 : Int) (a1 : Int) (w : World) (w0_0 : (Lit.int .i64 a0_0).wf = true) (w0_1 : (Lit.int .i64 a0_1).wf = true) (w1 : (Lit.int .i64 a1).wf = true) :
    Calls Try.prog 5 #[.agg #[.int .i64 a0_0, .int .i64 a0_1], .int .i64 a1] w fun e w' => e = .returned (.bool true) ∧ Below w.heap.size w w' := by
  go_enter Try.func5, Try.ntmps5
  have K0 : Hid (Blk2 (w.alloc (.cells #[.int .i64 a0_0, .int .i64 a0_1] 34)) w.heap.size 34 (.int .i64 a0_0) (.int .i64 a0_1)) := Blk2.at_ _ _ _ rfl
  have B : Hid (Below w.heap.size w (w.alloc (.cells #[.int .i64 a0_0, .int .i64 a0_1] 34))) := (Below.refl _ _).alloc (Nat.le_refl _) _
  obtain ⟨p, hp⟩ : ∃ p, (rsX a0_0 a0_1 a1).1 = p := ⟨_, rfl⟩
  have Hp := Lib.hid hp
  clear hp
  obtain ⟨f, hf⟩ : ∃ p, (rsX a0_0 a0_1 a1).2 = p := ⟨_, rfl⟩
  have Hf := Lib.hid hf
  clear hf
  obtain ⟨K0a, K0b, K0c, K0d⟩ := K0.out.all
  go_wp2_with fail
  refine (toRat a0_0 a0_1 _).mono ?_
  rintro e w1 ⟨rfl, hb⟩
  have K0 := Lib.hid (K0.out.keep hb K0.out.lt)
  have B := Lib.hid (B.out.trans (hb.mono B.out.size))
  clear hb
  obtain ⟨K0a, K0b, K0c, K0d⟩ := K0.out.all
  go_wp2_with fail
  refine (sResidue a0_0 a0_1 a1 _).mono ?_
  rintro e w2 ⟨rfl, hb⟩
  have K0 := Lib.hid (K0.out.keep hb K0.out.lt)
  have B := Lib.hid (B.out.trans (hb.mono B.out.size))
  clear hb
  rw [Hp.out, Hf.out]
  obtain ⟨K0a, K0b, K0c, K0d⟩ := K0.out.all
  go_wp2_with fail
  refine (toRat a0_0 a0_1 _).mono ?_
  rintro e w3 ⟨rfl, hb⟩
  have K0 := Lib.hid (K0.out.keep hb K0.out.lt)
  have B := Lib.hid (B.out.trans (hb.mono B.out.size))
  clear hb
  obtain ⟨K0a, K0b, K0c, K0d⟩ := K0.out.all
  go_wp2_with fail
  refine (iResidue a0_0 a0_1 a1 _).mono ?_
  rintro e w4 ⟨rfl, hb⟩
  have K0 := Lib.hid (K0.out.keep hb K0.out.lt)
  have B := Lib.hid (B.out.trans (hb.mono B.out.size))
  clear hb
  rw [Hp.out, Hf.out]
  go_wp2_with fail
  go_ret
  exact ⟨rfl, B.out⟩

/-! ### The row's step -/
set_option maxRecDepth 100000 in
theorem lifted (os : Os) (started : os.Started) (H : Type) (enc : TypeId × Value → H) :
    ReturnsInHanded {} Try.checked os 5 .any (Rows.fnExactResidueOfSpec.pre6 enc Try.prog Try.f5 Rows.fnExactResidueOfRow.domain false) (Rows.fnExactResidueOfSpec.post enc Try.prog Try.f5 false true false false) := by
  refine returnsInHanded_of_change (C := Try.checked) own started (by kernel_rfl) Try.func5
    (ChangeSpec.witness6 (enc := enc) (C := Try.checked) false ⟨#[], #[.agg #[.int .i64 0, .int .i64 0], .int .i64 0], []⟩ 8 (by kernel_rfl) (by kernel_rfl) (by kernel_rfl) (by kernel_rfl)) ?_
  intro W base args ds gs before hval0 hW hcnd _
  have hval : ∀ (j : Nat) t v, Try.f5.params[j]? = some t → args[j]? = some v → Value.okWide Try.prog W .any base t v := hval0
  have hW' := hW
  obtain ⟨p, q, hA0, hV, rfl, hfz, hnd⟩ := hW
  have hA : DataW.TrodAll enc Try.prog W 0 (fun _ => true) true Try.f5.params.toList args.toList ds p := hA0
  rw [Try.params5] at hA hval
  obtain ⟨v0, vs0, d0, ds0, p0, q0, hargs, rfl, rfl, h0, r0⟩ := trodAll_cons hA
  obtain ⟨v1, vs1, d1, ds1, p1, q1, rfl, rfl, rfl, h1, r1⟩ := trodAll_cons r0
  obtain ⟨rfl, rfl, rfl⟩ := trodAll_nil r1
  obtain rfl : args = #[v0, v1] := by cases args; simp_all
  obtain ⟨rfl, rfl⟩ := trodVars_none hV
  have k0 := h0
  have lt0 : ∀ x ∈ p0, x.block < W.heap.size := by obtain ⟨m, hm⟩ := k0; exact DataW.trod_lt m _ _ _ hm
  obtain ⟨c0_0, c0_1, y0_0, y0_1, m0, rfl, rfl, rfl, hy0_0, hy0_1⟩ := Joins.open_agg2 Try.underlying34 (by kernel_rfl) cells34 (hval 0 34 v0 rfl rfl) h0
  obtain ⟨a0_0, e0_0, rfl, w0_0⟩ := DataW.trod_int Try.underlying3 hy0_0
  simp only [List.cons.injEq, and_true] at e0_0
  subst e0_0
  obtain ⟨a0_1, e0_1, rfl, w0_1⟩ := DataW.trod_int Try.underlying3 hy0_1
  simp only [List.cons.injEq, and_true] at e0_1
  subst e0_1
  have k1 := h1
  have lt1 : ∀ x ∈ p1, x.block < W.heap.size := by obtain ⟨m, hm⟩ := k1; exact DataW.trod_lt m _ _ _ hm
  obtain ⟨a1, rfl, rfl, rfl, w1⟩ := open_int Try.underlying3 (hval 1 3 v1 rfl rfl) h1
  clear hA0 hval0
  refine (walk a0_0 a0_1 a1 W w0_0 w0_1 w1).mono fun e W' ⟨he, bel⟩ => ?_
  subst he
  exact ⟨_, rfl, _, _, _, [], _, [], hW', trodAll_mk1 (shut_bool Try.underlying4 _), (trodAll_cons_mk (Below.trod laidOut (by kernel_rfl) (of_decide_eq_true (by kernel_rfl)) k0 bel lt0) (trodAll_cons_mk (Below.trod laidOut (by kernel_rfl) (of_decide_eq_true (by kernel_rfl)) k1 bel lt1) trodAll_mk0)), rfl, bel.frame _, fun h => by cases h⟩

theorem over : Rows.fnExactResidueOfRow.holds Try.pinned (OpenSpec.ofChange Rows.fnExactResidueOfSpec) :=
  OpenClaim.holds_of_wide 5 Try.f5 rfl rfl rfl rfl rfl rfl rfl ⟨rfl, rfl, rfl, rfl, rfl⟩ rfl rfl rfl rfl rfl (by kernel_rfl) Try.func5 (by kernel_rfl)
    (of_decide_eq_true (by kernel_rfl)) (by unfold Func.isWrapper; first | (rw [if_pos (by decide +kernel)]; kernel_rfl) | (rw [if_neg (by decide +kernel)]; exact ⟨rfl, rfl⟩))
    (fun os started H enc _ => lifted os started H enc)

/-- ████ THE STATEMENT ████ -/
theorem proved : Rows.FnExactResidueOfSaid := over
#print axioms proved
end Go.Proofs.Ytkphlfcbinjknaa.fnExactResidueOf
