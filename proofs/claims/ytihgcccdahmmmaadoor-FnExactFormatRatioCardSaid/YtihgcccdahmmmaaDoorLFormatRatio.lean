/-
  Proved: for every ratio, the law FnExactFormatRatio returns true: the program's FormatRatio answers as the model's.
  Conditions: none beyond the row's own (the arguments read as data; the library's tables read as the program's text lays them, which the card ties).
-/
import Derived.Test.YtihgcccdahmmmaaDoorRows
import Derived.Test.YtihgcccdahmmmaaDoorLaid
import Derived.Test.YtihgcccdahmmmaaDoorTie
import Derived.Test.YtihgcccdahmmmaaDoorCards
import Derived.SevenTiedAt
import Derived.Lay
import Derived.LaidMore
import Derived.ChangeOld
import Derived.Below
import Derived.Test.YtihgcccdahmmmaaDoorRatLaw
import Derived.Test.YtihgcccdahmmmaaDoorFmtR
import Derived.Test.YtihgcccdahmmmaaDoorFmtRI
import Derived.Deep.RegionHeld3
import Derived.Deep.DeepCutAuto
import Derived.WalkKit
import Derived.ProofKit
import Derived.OpenShut
import Derived.ShutString
import Derived.Carry
import Derived.Lib.SmallJoins
namespace Go.Proofs.YtihgcccdahmmmaaDoor.fnExactFormatRatio
open Go.ChangeShapes Go.WideShapes Go.ChangeAt Go.RowKit
open Go.ChangeMaps (open_string shut_string)
set_option linter.unusedVariables false

theorem cells51 : Tryd.prog.cellsOf 51 = 2 := by kernel_rfl
set_option maxRecDepth 100000 in
set_option maxHeartbeats 8000000 in

theorem walk (a0_0 : Int) (a0_1 : Int) (w : World) (w0_0 : (Lit.int .i64 a0_0).wf = true) (w0_1 : (Lit.int .i64 a0_1).wf = true) (tb : Tab w) :
    Calls Tryd.prog 7 #[.agg #[.int .i64 a0_0, .int .i64 a0_1]] w fun e w' => e = .returned (.bool true) ∧ Below w.heap.size w w' := by
  have TB := Lib.hid tb
  obtain ⟨t, ht⟩ : ∃ t, ratText a0_0 a0_1 = t := ⟨_, rfl⟩
  have T := Lib.hid ht
  clear tb ht
  go_enter Tryd.func7, Tryd.ntmps7
  go_wp2_with fail
  refine (toRat a0_0 a0_1 _).mono ?_
  rintro e w1 ⟨rfl, hb⟩
  have A0 : Hid (Blk2 w1 w.heap.size 51 (.int .i64 a0_0) (.int .i64 a0_1)) := (Blk2.at_ _ _ _ rfl).keep hb (by simp)
  have B : Hid (Below w.heap.size w w1) := ((Below.refl _ _).alloc (Nat.le_refl _) _).trans (hb.mono (by simp))
  obtain ⟨ca1, cb1, -, -⟩ := A0.out.all
  clear hb
  go_wp2_with fail
  refine (sFormatRatio a0_0 a0_1 _).mono ?_
  rintro e w2 ⟨rfl, hb⟩
  rw [T.out]
  have A0 := Lib.hid (A0.out.keep hb A0.out.lt)
  have B := Lib.hid (B.out.trans (hb.mono B.out.size))
  obtain ⟨ca2, cb2, -, -⟩ := A0.out.all
  clear hb
  go_wp2_with fail
  refine (toRat a0_0 a0_1 _).mono ?_
  rintro e w3 ⟨rfl, hb⟩
  have A0 := Lib.hid (A0.out.keep hb A0.out.lt)
  have B := Lib.hid (B.out.trans (hb.mono B.out.size))
  obtain ⟨ca3, cb3, -, -⟩ := A0.out.all
  clear hb
  go_wp2_with fail
  refine (iFormatRatio a0_0 a0_1 _ (TB.out.below B.out)).mono ?_
  rintro e w4 ⟨rfl, hb⟩
  rw [T.out]
  have A0 := Lib.hid (A0.out.keep hb A0.out.lt)
  have B := Lib.hid (B.out.trans (hb.mono B.out.size))
  obtain ⟨ca4, cb4, -, -⟩ := A0.out.all
  clear hb
  go_wp2_with fail
  go_ret
  exact ⟨rfl, B.out⟩

/-! ### The row's step -/
/-- The tables that the row lists. -/
def tabs : List (String × DataW Unit) := [("math/bits.deBruijn32tab", Rows.laid_math_bits_deBruijn32tab), ("math/bits.deBruijn64tab", Rows.laid_math_bits_deBruijn64tab), ("internal/strconv.uint64pow10", Rows.laid_internal_strconv_uint64pow10)]
theorem tab_of_laid {W : World} (h : laidMetH Tryd.prog tabs W) : Tab W := by
  rw [MakeChecks.laidMetH_plain _ _ _ (by kernel_rfl)] at h
  have h1 := laidMet.tail (laidMet.tail (h))
  rw [pow_data] at h1
  exact Lib.tabIs_of_head gTab tab_type Tryd.underlying136 Tryd.underlying124 (by kernel_rfl) (by kernel_rfl) h1
set_option maxRecDepth 100000 in
theorem lifted (os : Os) (started : os.Started) (H : Type) (enc : TypeId × Value → H) :
    ReturnsInHanded {} Tryd.checked os 7 .any (fun w args => (Rows.fnExactFormatRatioSpec.pre enc Tryd.prog Tryd.f7 [] false w args ∧ laidMetH Tryd.prog tabs w) ∧ sizedMet enc Tryd.prog Tryd.f7 (OpenSpec.ofChange Rows.fnExactFormatRatioSpec) false w args)
      (Rows.fnExactFormatRatioSpec.post enc Tryd.prog Tryd.f7 false true false false) := by
  refine returnsInHanded_of_change_and (C := Tryd.checked) (X := fun w _ => laidMetH Tryd.prog tabs w) (fun _ _ _ hh h => h.of_heap hh) own started (by kernel_rfl) Tryd.func7
    (ChangeSpec.witness_shaped (enc := enc) (C := Tryd.checked) (os := os) (X := fun w _ => laidMetH Tryd.prog tabs w) false (World.laidAll Tryd.prog os tabs) #[.agg #[.int .i64 0, .int .i64 0]] 8 (World.laidAll_os _ _ _) (World.shaped_of_ZipB (by kernel_rfl) (by kernel_rfl)) (by kernel_rfl) (by kernel_rfl) (by kernel_rfl)
      (by rw [MakeChecks.laidMetH_plain _ _ _ (by kernel_rfl)]; exact laidMet_laidAll _ (by kernel_rfl) (by kernel_rfl))) ?_
  intro W base args ds gs before hval0 hW _ _ hL _
  have tb := tab_of_laid hL
  have hval : ∀ (j : Nat) t v, Tryd.f7.params[j]? = some t → args[j]? = some v → Value.okWide Tryd.prog W .any base t v := hval0
  have hW' := hW
  obtain ⟨p, q, hA0, hV, rfl, hfz, hnd⟩ := hW
  have hA : DataW.TrodAll enc Tryd.prog W 0 (fun _ => true) true Tryd.f7.params.toList args.toList ds p := hA0
  rw [Tryd.params7] at hA hval
  obtain ⟨v0, vs0, d0, ds0, p0, q0, hargs, rfl, rfl, h0, r0⟩ := trodAll_cons hA
  obtain ⟨rfl, rfl, rfl⟩ := trodAll_nil r0
  obtain rfl : args = #[v0] := by cases args; simp_all
  obtain ⟨rfl, rfl⟩ := trodVars_none hV
  have k0 := h0
  have lt0 : ∀ x ∈ p0, x.block < W.heap.size := by obtain ⟨m, hm⟩ := k0; exact DataW.trod_lt m _ _ _ hm
  obtain ⟨c0_0, c0_1, y0_0, y0_1, m0, rfl, rfl, rfl, hy0_0, hy0_1⟩ := Joins.open_agg2 Tryd.underlying51 (by kernel_rfl) cells51 (hval 0 51 v0 rfl rfl) h0
  obtain ⟨a0_0, e0_0, rfl, w0_0⟩ := DataW.trod_int Tryd.underlying3 hy0_0
  simp only [List.cons.injEq, and_true] at e0_0
  subst e0_0
  obtain ⟨a0_1, e0_1, rfl, w0_1⟩ := DataW.trod_int Tryd.underlying3 hy0_1
  simp only [List.cons.injEq, and_true] at e0_1
  subst e0_1
  clear hA0 hval0
  refine (walk a0_0 a0_1 W w0_0 w0_1 tb).mono fun e W' ⟨he, bel⟩ => ?_
  subst he
  exact ⟨_, rfl, _, _, _, [], _, [], hW', trodAll_mk1 (shut_bool Tryd.underlying4 _), (trodAll_cons_mk (Below.trod laidOut (by kernel_rfl) (of_decide_eq_true (by kernel_rfl)) k0 bel lt0) trodAll_mk0), rfl, bel.frame _, fun h => by cases h⟩

theorem over : Rows.fnExactFormatRatioRow.holds Tryd.pinned (OpenSpec.ofChange Rows.fnExactFormatRatioSpec) :=
  OpenClaim.holds_of_wide 7 Tryd.f7 rfl rfl rfl rfl rfl rfl rfl ⟨rfl, rfl, rfl, rfl, rfl⟩ rfl rfl rfl rfl rfl (by kernel_rfl) Tryd.func7 (by kernel_rfl)
    (of_decide_eq_true (by kernel_rfl)) (by unfold Func.isWrapper; first | (rw [if_pos (by decide +kernel)]; kernel_rfl) | (rw [if_neg (by decide +kernel)]; exact ⟨rfl, rfl⟩))
    (fun os started H enc _ => lifted os started H enc)

/-- THE TIED CARD. -/
theorem proved : Rows.FnExactFormatRatioCardSaid :=
  Claim7.holds_tied_plain_at .later [] [.data, .data, .data] true (true, "439f8157583cb05e311ebcab45017c9861a8d354741c74d5a10c2030de0560c9") false
    over (fun _ h => by cases h) (by kernel_rfl) (fun _ h => by cases h) fnExactFormatRatio_row_tie rfl ⟨rfl, rfl⟩ (by kernel_rfl) rfl
    (fun f fn hf hfn => by
      obtain rfl : f = 7 := Option.some.inj ((show Tryd.prog.funcNamed "loop.example/g03411/laws.FnExactFormatRatio" = some 7 by kernel_rfl).symm.trans hf) |>.symm
      obtain rfl : fn = Tryd.f7 := (Option.some.inj (Tryd.func7.symm.trans hfn)).symm
      exact ⟨by kernel_rfl, fun j t ht => by
        rw [Tryd.params7] at ht
        have hm : t ∈ [51] := by simpa using Array.mem_of_getElem? ht
        have hall : ([51].all fun u => !Tryd.prog.wantsStandIn u) = true := by kernel_rfl
        exact (show Tryd.prog.wantsStandIn t = false by simpa using List.all_eq_true.1 hall t hm)⟩)
    (by kernel_rfl)
#print axioms proved
end Go.Proofs.YtihgcccdahmmmaaDoor.fnExactFormatRatio
