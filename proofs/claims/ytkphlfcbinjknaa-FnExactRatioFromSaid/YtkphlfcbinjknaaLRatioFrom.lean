/-
  Proved: for all ints, the law FnExactRatioFrom returns true: the program's RatioFrom answers as the model's.
  Conditions: none beyond the row's own (the arguments read as data).
-/
import Derived.Test.YtkphlfcbinjknaaRows
import Derived.ChangeOld
import Derived.Below
import Derived.Test.YtkphlfcbinjknaaRcI
import Derived.Test.YtkphlfcbinjknaaRatLaw
import Derived.Deep.RegionHeld3
import Derived.Deep.DeepCutAuto
import Derived.WalkKit
import Derived.ProofKit
import Derived.OpenShut
import Derived.ShutString
import Derived.Carry
import Derived.Lib.SmallJoins
namespace Go.Proofs.Ytkphlfcbinjknaa.fnExactRatioFrom
open Go.ChangeShapes Go.WideShapes Go.ChangeAt Go.RowKit
open Go.ChangeMaps (open_string shut_string)
set_option linter.unusedVariables false

theorem own : ownKnob Try.prog.godebug = none := by kernel_rfl
theorem laidOut : laidOutB Try.prog = true := by kernel_rfl

set_option maxRecDepth 100000 in
set_option maxHeartbeats 4000000 in

theorem walk (a0 : Int) (a1 : Int) (a2 : Int) (w : World) (w0 : (Lit.int .i64 a0).wf = true) (w1 : (Lit.int .i64 a1).wf = true) (w2 : (Lit.int .i64 a2).wf = true) :
    Calls Try.prog 6 #[.int .i64 a0, .int .i64 a1, .int .i64 a2] w fun e w' => e = .returned (.bool true) ∧ Below w.heap.size w w' := by
  go_enter Try.func6, Try.ntmps6
  have B : Hid (Below w.heap.size w w) := Below.refl _ _
  obtain ⟨p, hp⟩ : ∃ p, (rtX a0 a1 a2).1 = p := ⟨_, rfl⟩
  have Hp := Lib.hid hp
  clear hp
  obtain ⟨q, hq⟩ : ∃ p, (rtX a0 a1 a2).2.1 = p := ⟨_, rfl⟩
  have Hq := Lib.hid hq
  clear hq
  obtain ⟨f, hf⟩ : ∃ p, (rtX a0 a1 a2).2.2 = p := ⟨_, rfl⟩
  have Hf := Lib.hid hf
  clear hf
  go_wp2_with fail
  refine (sRatio a0 a1 a2 _).mono ?_
  rintro e w1 ⟨rfl, hb⟩
  have B := Lib.hid (B.out.trans (hb.mono B.out.size))
  clear hb
  rw [Hp.out, Hq.out, Hf.out]
  have K7 : Hid (Blk2 (w1.alloc (.cells #[.int .i64 p, .int .i64 q] 25)) w1.heap.size 25 (.int .i64 p) (.int .i64 q)) := Blk2.at_ _ _ _ rfl
  have B : Hid (Below w.heap.size w (w1.alloc (.cells #[.int .i64 p, .int .i64 q] 25))) := B.out.alloc B.out.size _
  obtain ⟨K7a, K7b, K7c, K7d⟩ := K7.out.all
  go_wp2_with fail
  refine (iRatio a0 a1 a2 _).mono ?_
  rintro e w2 ⟨rfl, hb⟩
  have K7 := Lib.hid (K7.out.keep hb K7.out.lt)
  have B := Lib.hid (B.out.trans (hb.mono B.out.size))
  clear hb
  rw [Hp.out, Hq.out, Hf.out]
  have K9 : Hid (Blk2 (w2.alloc (.cells #[.int .i64 p, .int .i64 q] 25)) w2.heap.size 25 (.int .i64 p) (.int .i64 q)) := Blk2.at_ _ _ _ rfl
  have K7 : Hid (Blk2 (w2.alloc (.cells #[.int .i64 p, .int .i64 q] 25)) w1.heap.size 25 (.int .i64 p) (.int .i64 q)) := K7.out.old _
  have B : Hid (Below w.heap.size w (w2.alloc (.cells #[.int .i64 p, .int .i64 q] 25))) := B.out.alloc B.out.size _
  obtain ⟨K7a, K7b, K7c, K7d⟩ := K7.out.all
  obtain ⟨K9a, K9b, K9c, K9d⟩ := K9.out.all
  go_wp2_with fail
  refine (eqRat_t p q _).mono ?_
  rintro e w3 ⟨rfl, hb⟩
  have B := Lib.hid (B.out.trans (hb.mono B.out.size))
  clear hb
  go_wp2_with fail
  go_ret
  exact ⟨rfl, B.out⟩

/-! ### The row's step -/
set_option maxRecDepth 100000 in
theorem lifted (os : Os) (started : os.Started) (H : Type) (enc : TypeId × Value → H) :
    ReturnsInHanded {} Try.checked os 6 .any (Rows.fnExactRatioFromSpec.pre6 enc Try.prog Try.f6 Rows.fnExactRatioFromRow.domain false) (Rows.fnExactRatioFromSpec.post enc Try.prog Try.f6 false true false false) := by
  refine returnsInHanded_of_change (C := Try.checked) own started (by kernel_rfl) Try.func6
    (ChangeSpec.witness6 (enc := enc) (C := Try.checked) false ⟨#[], #[.int .i64 0, .int .i64 0, .int .i64 0], []⟩ 8 (by kernel_rfl) (by kernel_rfl) (by kernel_rfl) (by kernel_rfl)) ?_
  intro W base args ds gs before hval0 hW hcnd _
  have hval : ∀ (j : Nat) t v, Try.f6.params[j]? = some t → args[j]? = some v → Value.okWide Try.prog W .any base t v := hval0
  have hW' := hW
  obtain ⟨p, q, hA0, hV, rfl, hfz, hnd⟩ := hW
  have hA : DataW.TrodAll enc Try.prog W 0 (fun _ => true) true Try.f6.params.toList args.toList ds p := hA0
  rw [Try.params6] at hA hval
  obtain ⟨v0, vs0, d0, ds0, p0, q0, hargs, rfl, rfl, h0, r0⟩ := trodAll_cons hA
  obtain ⟨v1, vs1, d1, ds1, p1, q1, rfl, rfl, rfl, h1, r1⟩ := trodAll_cons r0
  obtain ⟨v2, vs2, d2, ds2, p2, q2, rfl, rfl, rfl, h2, r2⟩ := trodAll_cons r1
  obtain ⟨rfl, rfl, rfl⟩ := trodAll_nil r2
  obtain rfl : args = #[v0, v1, v2] := by cases args; simp_all
  obtain ⟨rfl, rfl⟩ := trodVars_none hV
  have k0 := h0
  have lt0 : ∀ x ∈ p0, x.block < W.heap.size := by obtain ⟨m, hm⟩ := k0; exact DataW.trod_lt m _ _ _ hm
  obtain ⟨a0, rfl, rfl, rfl, w0⟩ := open_int Try.underlying3 (hval 0 3 v0 rfl rfl) h0
  have k1 := h1
  have lt1 : ∀ x ∈ p1, x.block < W.heap.size := by obtain ⟨m, hm⟩ := k1; exact DataW.trod_lt m _ _ _ hm
  obtain ⟨a1, rfl, rfl, rfl, w1⟩ := open_int Try.underlying3 (hval 1 3 v1 rfl rfl) h1
  have k2 := h2
  have lt2 : ∀ x ∈ p2, x.block < W.heap.size := by obtain ⟨m, hm⟩ := k2; exact DataW.trod_lt m _ _ _ hm
  obtain ⟨a2, rfl, rfl, rfl, w2⟩ := open_int Try.underlying3 (hval 2 3 v2 rfl rfl) h2
  clear hA0 hval0
  refine (walk a0 a1 a2 W w0 w1 w2).mono fun e W' ⟨he, bel⟩ => ?_
  subst he
  exact ⟨_, rfl, _, _, _, [], _, [], hW', trodAll_mk1 (shut_bool Try.underlying4 _), (trodAll_cons_mk (Below.trod laidOut (by kernel_rfl) (of_decide_eq_true (by kernel_rfl)) k0 bel lt0) (trodAll_cons_mk (Below.trod laidOut (by kernel_rfl) (of_decide_eq_true (by kernel_rfl)) k1 bel lt1) (trodAll_cons_mk (Below.trod laidOut (by kernel_rfl) (of_decide_eq_true (by kernel_rfl)) k2 bel lt2) trodAll_mk0))), rfl, bel.frame _, fun h => by cases h⟩

theorem over : Rows.fnExactRatioFromRow.holds Try.pinned (OpenSpec.ofChange Rows.fnExactRatioFromSpec) :=
  OpenClaim.holds_of_wide 6 Try.f6 rfl rfl rfl rfl rfl rfl rfl ⟨rfl, rfl, rfl, rfl, rfl⟩ rfl rfl rfl rfl rfl (by kernel_rfl) Try.func6 (by kernel_rfl)
    (of_decide_eq_true (by kernel_rfl)) (by unfold Func.isWrapper; first | (rw [if_pos (by decide +kernel)]; kernel_rfl) | (rw [if_neg (by decide +kernel)]; exact ⟨rfl, rfl⟩))
    (fun os started H enc _ => lifted os started H enc)

/-- ████ THE STATEMENT ████ -/
theorem proved : Rows.FnExactRatioFromSaid := over
#print axioms proved
end Go.Proofs.Ytkphlfcbinjknaa.fnExactRatioFrom
