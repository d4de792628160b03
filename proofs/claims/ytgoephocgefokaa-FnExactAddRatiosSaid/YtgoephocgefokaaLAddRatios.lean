/-
  Proved: for every two ratios, whatever they hold, the law FnExactAddRatios returns true: the program's AddRatios answers as the model's.
  Conditions: none beyond the row's own (the arguments read as data).
-/
import Derived.Test.YtgoephocgefokaaRows
import Derived.ChangeOld
import Derived.Below
import Derived.Test.YtgoephocgefokaaRatLaw
import Derived.Test.YtgoephocgefokaaRatOpS
import Derived.Test.YtgoephocgefokaaRatOpI
import Derived.WalkKit
import Derived.ProofKit
import Derived.OpenShut
import Derived.ShutString
import Derived.Carry
import Derived.Lib.SmallJoins
namespace Go.Proofs.Ytgoephocgefokaa.fnExactAddRatios
open Go.ChangeShapes Go.WideShapes Go.ChangeAt Go.RowKit
open Go.ChangeMaps (open_string shut_string)
set_option linter.unusedVariables false

theorem own : ownKnob Try.prog.godebug = none := by kernel_rfl
theorem laidOut : laidOutB Try.prog = true := by kernel_rfl
theorem cells23 : Try.prog.cellsOf 23 = 2 := by kernel_rfl
set_option maxHeartbeats 2000000 in

theorem walk (a0_0 : Int) (a0_1 : Int) (a1_0 : Int) (a1_1 : Int) (w : World) (w0_0 : (Lit.int .i64 a0_0).wf = true) (w0_1 : (Lit.int .i64 a0_1).wf = true) (w1_0 : (Lit.int .i64 a1_0).wf = true) (w1_1 : (Lit.int .i64 a1_1).wf = true) :
    Calls Try.prog 5 #[.agg #[.int .i64 a0_0, .int .i64 a0_1], .agg #[.int .i64 a1_0, .int .i64 a1_1]] w fun e w' => e = .returned (.bool true) ∧ Below w.heap.size w w' := by
  go_enter Try.func5, Try.ntmps5
  go_upto_region 1 with fail
  go_cut [5] (fun s5 wx => ∃ g : Nat, s5 = .pointer (some ⟨g, 0, none⟩) ∧ Blk2 wx w.heap.size 23 (.int .i64 a0_0) (.int .i64 a0_1) ∧ Blk2 wx (w.heap.size + 1) 23 (.int .i64 a1_0) (.int .i64 a1_1) ∧ Blk2 wx g 25 (.int .i64 (addR a0_0 a0_1 a1_0 a1_1).1) (.int .i64 (addR a0_0 a0_1 a1_0 a1_1).2) ∧ Below w.heap.size w wx)
  case first =>
    have A0 : Hid (Blk2 ((w.alloc (.cells #[.int .i64 a0_0, .int .i64 a0_1] 23)).alloc (.cells #[.int .i64 a1_0, .int .i64 a1_1] 23)) w.heap.size 23 (.int .i64 a0_0) (.int .i64 a0_1)) := ((Blk2.at_ _ _ _ rfl).old _)
    have A1 : Hid (Blk2 ((w.alloc (.cells #[.int .i64 a0_0, .int .i64 a0_1] 23)).alloc (.cells #[.int .i64 a1_0, .int .i64 a1_1] 23)) (w.heap.size + 1) 23 (.int .i64 a1_0) (.int .i64 a1_1)) := Blk2.at_ _ _ _ (by simp)
    go_region_held3 (fun w' => w'.cell? ⟨w.heap.size, 0, none⟩ = some (.int .i64 a0_0) ∧ w'.cell? ⟨w.heap.size, 1, none⟩ = some (.int .i64 a0_1) ∧ w'.cell? ⟨w.heap.size + 1, 0, none⟩ = some (.int .i64 a1_0) ∧ w'.cell? ⟨w.heap.size + 1, 1, none⟩ = some (.int .i64 a1_1)) (first | with_reducible exact keep4 ‹_› ‹_› | with_reducible exact keep4 ((Below.refl _ _).alloc (Nat.le_refl _) _) ‹_› | with_reducible exact keep4n (by omega) (by omega) ‹_› | with_reducible exact keep4s (by omega) (by omega) ‹_› | go_keep)
      (first
        | (go_at_call 17; (with_reducible refine (toRat a0_0 a0_1 _).mono ?_); rintro e w1 ⟨rfl, hb1⟩; have hz1 := hb1.size; (try simp at hz1); (try have hy1 := Nat.lt_of_succ_le hz1); (try have hx1 : w.heap.size + 1 + 1 < w1.heap.size := by omega); (try have hv1 : w.heap.size + 2 < w1.heap.size := by omega); obtain ⟨hc1, hf1⟩ := bcell hb1)
        | (go_at_call 17; (with_reducible refine (toRat a1_0 a1_1 _).mono ?_); rintro e w2 ⟨rfl, hb2⟩; have hz2 := hb2.size; (try simp at hz2); (try have hy2 := Nat.lt_of_succ_le hz2); (try have hx2 : w.heap.size + 1 + 1 < w2.heap.size := by omega); (try have hv2 : w.heap.size + 2 < w2.heap.size := by omega); obtain ⟨hc2, hf2⟩ := bcell hb2)
        | (go_at_call 22; (with_reducible refine (sAdd a0_0 a0_1 a1_0 a1_1 _).mono ?_); rintro e w3 ⟨rfl, hb3⟩; have hz3 := hb3.size; (try simp at hz3); (try have hy3 := Nat.lt_of_succ_le hz3); (try have hx3 : w.heap.size + 1 + 1 < w3.heap.size := by omega); (try have hv3 : w.heap.size + 2 < w3.heap.size := by omega); obtain ⟨hc3, hf3⟩ := bcell hb3; unfold ratV))
    all_goals
      go_wp2_with fail
      go_meet
      refine ⟨_, rfl, fin4 A0.out A1.out (by repeat (first | with_reducible exact Below.refl _ _ | with_reducible refine Below.setCell ?_ (by (first | omega | (simp; done) | (simp; omega))) _ | with_reducible refine Below.alloc ?_ (by (first | omega | (simp; done) | (simp; omega))) _ | with_reducible refine Below.drew ?_ | with_reducible refine below_drewN ?_ _)) (by repeat (first | with_reducible exact Below.refl _ _ | with_reducible refine Below.setCell ?_ (by (first | omega | (simp; done) | (simp; omega))) _ | with_reducible refine Below.alloc ?_ (by (first | omega | (simp; done) | (simp; omega))) _ | with_reducible refine Below.drew ?_ | with_reducible refine below_drewN ?_ _ | with_reducible refine Below.trans ?_ (hb3.mono (by (first | omega | (simp; done) | (simp; omega)))) | with_reducible refine Below.trans ?_ (hb2.mono (by (first | omega | (simp; done) | (simp; omega)))) | with_reducible refine Below.trans ?_ (hb1.mono (by (first | omega | (simp; done) | (simp; omega)))))) ?_⟩
      first | with_reducible exact Blk2.at_ _ _ _ rfl | with_reducible exact Blk2.at_ _ _ _ (by simp) | (with_reducible refine Blk2.set1 (q := .int .i64 0) (Blk2.set0 (p := .int .i64 0) ?_ _) _; repeat (first | with_reducible exact Blk2.at_ _ _ _ rfl | with_reducible exact Blk2.at_ _ _ _ (by simp) | with_reducible refine Blk2.drew ?_ | with_reducible refine Blk2.drewN ?_ _ | with_reducible refine Blk2.keep ?_ hb3 (by (first | omega | (simp; done) | (simp; omega))) | with_reducible refine Blk2.keep ?_ hb2 (by (first | omega | (simp; done) | (simp; omega))) | with_reducible refine Blk2.keep ?_ hb1 (by (first | omega | (simp; done) | (simp; omega)))))
  case rest =>
    obtain ⟨g, rfl, x0, x1, x2, x3⟩ := hcut
    obtain ⟨c1, c2, -, -⟩ := x0.all
    obtain ⟨c3, c4, -, -⟩ := x1.all
    have l0 := x0.lt
    have l1 := x1.lt
    have G := Lib.hid x2
    have B := Lib.hid x3
    clear x0 x1 x2 x3
    go_upto_region 2 with fail
    go_cut [6] (fun s6 wx => ∃ h : Nat, s6 = .pointer (some ⟨h, 0, none⟩) ∧ Blk2 wx g 25 (.int .i64 (addR a0_0 a0_1 a1_0 a1_1).1) (.int .i64 (addR a0_0 a0_1 a1_0 a1_1).2) ∧ Blk2 wx h 25 (.int .i64 (addR a0_0 a0_1 a1_0 a1_1).1) (.int .i64 (addR a0_0 a0_1 a1_0 a1_1).2) ∧ Below w.heap.size w wx)
    case first =>
      go_region_held3 (fun w' => w'.cell? ⟨w.heap.size, 0, none⟩ = some (.int .i64 a0_0) ∧ w'.cell? ⟨w.heap.size, 1, none⟩ = some (.int .i64 a0_1) ∧ w'.cell? ⟨w.heap.size + 1, 0, none⟩ = some (.int .i64 a1_0) ∧ w'.cell? ⟨w.heap.size + 1, 1, none⟩ = some (.int .i64 a1_1)) (first | with_reducible exact keep4 ‹_› ‹_› | with_reducible exact keep4 ((Below.refl _ _).alloc (Nat.le_refl _) _) ‹_› | with_reducible exact keep4n (by omega) (by omega) ‹_› | with_reducible exact keep4s (by omega) (by omega) ‹_› | go_keep)
        (first
        | (go_at_call 17; (with_reducible refine (toRat a0_0 a0_1 _).mono ?_); rintro e w1 ⟨rfl, hb1⟩; have hz1 := hb1.size; (try simp at hz1); (try have hy1 := Nat.lt_of_succ_le hz1); (try have hx1 : wc.heap.size < w1.heap.size := by omega); (try have hv1 : wc.heap.size < w1.heap.size := by omega); obtain ⟨hc1, hf1⟩ := bcell hb1)
        | (go_at_call 17; (with_reducible refine (toRat a1_0 a1_1 _).mono ?_); rintro e w2 ⟨rfl, hb2⟩; have hz2 := hb2.size; (try simp at hz2); (try have hy2 := Nat.lt_of_succ_le hz2); (try have hx2 : wc.heap.size < w2.heap.size := by omega); (try have hv2 : wc.heap.size < w2.heap.size := by omega); obtain ⟨hc2, hf2⟩ := bcell hb2)
        | (go_at_call 23; (with_reducible refine (iAdd a0_0 a0_1 a1_0 a1_1 _).mono ?_); rintro e w3 ⟨rfl, hb3⟩; have hz3 := hb3.size; (try simp at hz3); (try have hy3 := Nat.lt_of_succ_le hz3); (try have hx3 : wc.heap.size < w3.heap.size := by omega); (try have hv3 : wc.heap.size < w3.heap.size := by omega); obtain ⟨hc3, hf3⟩ := bcell hb3; unfold ratV))
      all_goals
        go_wp2_with fail
        go_meet
        refine ⟨_, rfl, finT G.out B.out (by repeat (first | with_reducible exact Below.refl _ _ | with_reducible refine Below.setCell ?_ (by (first | omega | (simp; done) | (simp; omega))) _ | with_reducible refine Below.alloc ?_ (by (first | omega | (simp; done) | (simp; omega))) _ | with_reducible refine Below.drew ?_ | with_reducible refine below_drewN ?_ _ | with_reducible refine Below.trans ?_ (hb3.mono (by (first | omega | (simp; done) | (simp; omega)))) | with_reducible refine Below.trans ?_ (hb2.mono (by (first | omega | (simp; done) | (simp; omega)))) | with_reducible refine Below.trans ?_ (hb1.mono (by (first | omega | (simp; done) | (simp; omega)))))) ?_⟩
        first | with_reducible exact Blk2.at_ _ _ _ rfl | with_reducible exact Blk2.at_ _ _ _ (by simp) | (with_reducible refine Blk2.set1 (q := .int .i64 0) (Blk2.set0 (p := .int .i64 0) ?_ _) _; repeat (first | with_reducible exact Blk2.at_ _ _ _ rfl | with_reducible exact Blk2.at_ _ _ _ (by simp) | with_reducible refine Blk2.drew ?_ | with_reducible refine Blk2.drewN ?_ _ | with_reducible refine Blk2.keep ?_ hb3 (by (first | omega | (simp; done) | (simp; omega))) | with_reducible refine Blk2.keep ?_ hb2 (by (first | omega | (simp; done) | (simp; omega))) | with_reducible refine Blk2.keep ?_ hb1 (by (first | omega | (simp; done) | (simp; omega)))))
    case rest =>
      obtain ⟨h, rfl, k1, k2, bb⟩ := hcut
      have B2 := Lib.hid bb
      obtain ⟨c1, c2, -, -⟩ := k1.all
      obtain ⟨c3, c4, -, -⟩ := k2.all
      clear k1 k2 bb
      go_wp2_with fail
      refine (eqRat_t _ _ _).mono ?_
      rintro e w1 ⟨rfl, hb⟩
      have B3 := Lib.hid (B2.out.trans (hb.mono B2.out.size))
      clear hb
      go_wp2_with fail
      go_ret
      exact ⟨rfl, B3.out⟩

/-! ### The row's step -/
set_option maxRecDepth 100000 in
theorem lifted (os : Os) (started : os.Started) (H : Type) (enc : TypeId × Value → H) :
    ReturnsInHanded {} Try.checked os 5 .any (Rows.fnExactAddRatiosSpec.pre6 enc Try.prog Try.f5 Rows.fnExactAddRatiosRow.domain false) (Rows.fnExactAddRatiosSpec.post enc Try.prog Try.f5 false true false false) := by
  refine returnsInHanded_of_change (C := Try.checked) own started (by kernel_rfl) Try.func5
    (ChangeSpec.witness6 (enc := enc) (C := Try.checked) false ⟨#[], #[.agg #[.int .i64 0, .int .i64 0], .agg #[.int .i64 0, .int .i64 0]], []⟩ 8 (by kernel_rfl) (by kernel_rfl) (by kernel_rfl) (by kernel_rfl)) ?_
  intro W base args ds gs before hval0 hW hcnd _
  have hval : ∀ (j : Nat) t v, Try.f5.params[j]? = some t → args[j]? = some v → Value.okWide Try.prog W .any base t v := hval0
  have hW' := hW
  obtain ⟨p, q, hA0, hV, rfl, hfz, hnd⟩ := hW
  have hA : DataW.TrodAll enc Try.prog W 0 (fun _ => true) true Try.f5.params.toList args.toList ds p := hA0
  rw [Try.params5] at hA hval
  obtain ⟨v0, vs0, d0, ds0, p0, q0, hargs, rfl, rfl, h0, r0⟩ := trodAll_cons hA
  obtain ⟨v1, vs1, d1, ds1, p1, q1, rfl, rfl, rfl, h1, r1⟩ := trodAll_cons r0
  obtain ⟨rfl, rfl, rfl⟩ := trodAll_nil r1
  obtain rfl : args = #[v0, v1] := by cases args; simp_all
  obtain ⟨rfl, rfl⟩ := trodVars_none hV
  have k0 := h0
  have lt0 : ∀ x ∈ p0, x.block < W.heap.size := by obtain ⟨m, hm⟩ := k0; exact DataW.trod_lt m _ _ _ hm
  obtain ⟨c0_0, c0_1, y0_0, y0_1, m0, rfl, rfl, rfl, hy0_0, hy0_1⟩ := Joins.open_agg2 Try.underlying23 (by kernel_rfl) cells23 (hval 0 23 v0 rfl rfl) h0
  obtain ⟨a0_0, e0_0, rfl, w0_0⟩ := DataW.trod_int Try.underlying3 hy0_0
  simp only [List.cons.injEq, and_true] at e0_0
  subst e0_0
  obtain ⟨a0_1, e0_1, rfl, w0_1⟩ := DataW.trod_int Try.underlying3 hy0_1
  simp only [List.cons.injEq, and_true] at e0_1
  subst e0_1
  have k1 := h1
  have lt1 : ∀ x ∈ p1, x.block < W.heap.size := by obtain ⟨m, hm⟩ := k1; exact DataW.trod_lt m _ _ _ hm
  obtain ⟨c1_0, c1_1, y1_0, y1_1, m1, rfl, rfl, rfl, hy1_0, hy1_1⟩ := Joins.open_agg2 Try.underlying23 (by kernel_rfl) cells23 (hval 1 23 v1 rfl rfl) h1
  obtain ⟨a1_0, e1_0, rfl, w1_0⟩ := DataW.trod_int Try.underlying3 hy1_0
  simp only [List.cons.injEq, and_true] at e1_0
  subst e1_0
  obtain ⟨a1_1, e1_1, rfl, w1_1⟩ := DataW.trod_int Try.underlying3 hy1_1
  simp only [List.cons.injEq, and_true] at e1_1
  subst e1_1
  clear hA0 hval0
  refine (walk a0_0 a0_1 a1_0 a1_1 W w0_0 w0_1 w1_0 w1_1).mono fun e W' ⟨he, bel⟩ => ?_
  subst he
  exact ⟨_, rfl, _, _, _, [], _, [], hW', trodAll_mk1 (shut_bool Try.underlying4 _), (trodAll_cons_mk (Below.trod laidOut (by kernel_rfl) (of_decide_eq_true (by kernel_rfl)) k0 bel lt0) (trodAll_cons_mk (Below.trod laidOut (by kernel_rfl) (of_decide_eq_true (by kernel_rfl)) k1 bel lt1) trodAll_mk0)), rfl, bel.frame _, fun h => by cases h⟩

theorem over : Rows.fnExactAddRatiosRow.holds Try.pinned (OpenSpec.ofChange Rows.fnExactAddRatiosSpec) :=
  OpenClaim.holds_of_wide 5 Try.f5 rfl rfl rfl rfl rfl rfl rfl ⟨rfl, rfl, rfl, rfl, rfl⟩ rfl rfl rfl rfl rfl (by kernel_rfl) Try.func5 (by kernel_rfl)
    (of_decide_eq_true (by kernel_rfl)) (by unfold Func.isWrapper; first | (rw [if_pos (by decide +kernel)]; kernel_rfl) | (rw [if_neg (by decide +kernel)]; exact ⟨rfl, rfl⟩))
    (fun os started H enc _ => lifted os started H enc)

/-- ████ THE STATEMENT ████ -/
theorem proved : Rows.FnExactAddRatiosSaid := over
#print axioms proved
end Go.Proofs.Ytgoephocgefokaa.fnExactAddRatios
