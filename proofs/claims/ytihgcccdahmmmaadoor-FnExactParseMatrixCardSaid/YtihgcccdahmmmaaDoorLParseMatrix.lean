/-
  Proved: for every text, the law FnExactParseMatrix returns true: the program's ParseMatrix answers as the model's and its answer owns its memory.
  Conditions: none beyond the row's own (the arguments read as data; the library's tables read as the program's text lays them, which the card ties).
-/
import Derived.Test.YtihgcccdahmmmaaDoorRows
import Derived.Test.YtihgcccdahmmmaaDoorLaid
import Derived.Test.YtihgcccdahmmmaaDoorTie
import Derived.Test.YtihgcccdahmmmaaDoorCards
import Derived.SevenTiedAt
import Derived.Lay
import Derived.LaidMore
import Derived.ChangeOld
import Derived.Below
import Derived.Test.YtihgcccdahmmmaaDoorMem
import Derived.Test.YtihgcccdahmmmaaDoorLawMat
import Derived.Test.YtihgcccdahmmmaaDoorParM
import Derived.Test.YtihgcccdahmmmaaDoorRead7
import Derived.Deep.RegionHeld3
import Derived.Deep.DeepCutAuto
import Derived.WalkKit
import Derived.ProofKit
import Derived.OpenShut
import Derived.ShutString
import Derived.Carry
import Derived.Lib.SmallJoins
namespace Go.Proofs.YtihgcccdahmmmaaDoor.fnExactParseMatrix
open Go.ChangeShapes Go.WideShapes Go.ChangeAt Go.RowKit
open Go.ChangeMaps (open_string shut_string)
set_option linter.unusedVariables false


set_option maxRecDepth 100000 in
set_option maxHeartbeats 8000000 in

theorem walk (a0 : ByteArray) (w : World) (w0 : a0.size ≤ maxLen) (tb : Tab w) :
    Calls Tryd.prog 5 #[.string a0] w fun e w' => e = .returned (.bool true) ∧ Below w.heap.size w w' := by
  have TB := Lib.hid tb
  clear tb
  obtain ⟨l0, rfl⟩ : ∃ l : List UInt8, a0 = ⟨l.toArray⟩ := ⟨a0.data.toList, by cases a0; simp⟩
  clear w0
  by_cases bx0 : l0.length ≤ 1048576
  · have nb : decide ((1048576 : Int) < l0.length) = false := decide_eq_false (by omega)
    go_enter Tryd.func5, Tryd.ntmps5
    go_wp2_with fail
    have B : Hid (Below w.heap.size w w) := Below.refl _ _
    obtain ⟨mr, hmr⟩ : ∃ mr, parM l0 = mr := ⟨_, rfl⟩
    have MRH := Lib.hid hmr
    clear hmr
    refine (sParseMatrix l0 _ (by omega)).mono ?_
    rintro e w2 ⟨vO, rfl, own, hb⟩
    rw [MRH.out] at own ⊢
    obtain ⟨qO, qcO, rfl, -, -⟩ := own.form
    have B := Lib.hid (stepB B.out hb)
    have O0 : Hid (In w.heap.size w2.heap.size w2 (.slice qO mr.zs.length qcO) mr.zs) := by have := own.inn; (try simp at this); exact this
    have sw2 : w.heap.size ≤ w2.heap.size := by have := hb.size; simpa using this
    have KO : Hid (Blk3 (w2.alloc (.cells #[.int .i64 mr.r, .int .i64 mr.c, .slice qO mr.zs.length qcO] 26)) w2.heap.size 26 (.int .i64 mr.r) (.int .i64 mr.c) (.slice qO mr.zs.length qcO)) := Blk3.at_ _ _ _ _ rfl
    have szO := own.small
    clear hb own
    go_wp2_with fail
    refine (iParseMatrix l0 _ (by omega) (TB.out.below (B.out.alloc B.out.size _))).mono ?_
    rintro e w3 ⟨vG, rfl, own, hb⟩
    rw [MRH.out] at own ⊢
    obtain ⟨qG, qcG, rfl, -, -⟩ := own.form
    have KO := Lib.hid (KO.out.step hb)
    have O0 := Lib.hid ((O0.out.old _).keep hb)
    have B := Lib.hid (stepB (B.out.alloc B.out.size _) hb)
    have G0 : Hid (In (w2.heap.size + 1) w3.heap.size w3 (.slice qG mr.zs.length qcG) mr.zs) := by have := own.inn; (try simp at this); exact this
    have sw3 : (w2.heap.size + 1) ≤ w3.heap.size := by have := hb.size; simpa using this
    have KG : Hid (Blk3 (w3.alloc (.cells #[.int .i64 mr.r, .int .i64 mr.c, .slice qG mr.zs.length qcG] 26)) w3.heap.size 26 (.int .i64 mr.r) (.int .i64 mr.c) (.slice qG mr.zs.length qcG)) := Blk3.at_ _ _ _ _ rfl
    have szG := own.small
    clear hb own
    obtain ⟨cc2_00, cc2_01, cc2_02, -, -, -⟩ := KO.out.all
    have ll2_0 := KO.out.lt
    go_wp2_with fail
    refine (eqM_t mr.r mr.c qG qO qcG qcO mr.zs _ (G0.out.old _).rd.2.1 (O0.out.old _).rd.2.1 szG).mono ?_
    rintro e w4 ⟨rfl, hb⟩
    have KG := Lib.hid (KG.out.step hb)
    have O0 := Lib.hid ((O0.out.old _).keep hb)
    have KO := Lib.hid ((KO.out.old _).step hb)
    have G0 := Lib.hid ((G0.out.old _).keep hb)
    have B := Lib.hid (stepB (B.out.alloc B.out.size _) hb)
    clear hb
    obtain ⟨cc3_00, cc3_01, cc3_02, -, -, -⟩ := KO.out.all
    have ll3_0 := KO.out.lt
    obtain ⟨cc3_10, cc3_11, cc3_12, -, -, -⟩ := KG.out.all
    have ll3_1 := KG.out.lt
    go_wp2_with fail
    refine (markIn mr.r mr.c qG mr.zs.length qcG mr.zs 1 _ G0.out (by omega) (by omega)).mono ?_
    rintro e w5 ⟨rfl, inn, hc⟩
    have O0 := Lib.hid (O0.out.chg hc (by omega))
    have KO := Lib.hid (KO.out.chg hc (by omega))
    have KG := Lib.hid (KG.out.chg hc (by omega))
    have B := Lib.hid (Below.chg B.out hc (by omega) B.out.size)
    have G0 := Lib.hid inn
    clear hc inn
    obtain ⟨cc4_00, cc4_01, cc4_02, -, -, -⟩ := KO.out.all
    have ll4_0 := KO.out.lt
    obtain ⟨cc4_10, cc4_11, cc4_12, -, -, -⟩ := KG.out.all
    have ll4_1 := KG.out.lt
    go_wp2_with fail
    refine (heldM mr.r mr.c qG qcG mr.zs.length 1 _ G0.out.rd.2.1 szG (by omega) (by omega)).mono ?_
    rintro e w6 ⟨rfl, hb⟩
    have O0 := Lib.hid (O0.out.keep hb)
    have KO := Lib.hid (KO.out.step hb)
    have KG := Lib.hid (KG.out.step hb)
    have G0 := Lib.hid (G0.out.keep hb)
    have B := Lib.hid (stepB B.out hb)
    clear hb
    obtain ⟨cc5_00, cc5_01, cc5_02, -, -, -⟩ := KO.out.all
    have ll5_0 := KO.out.lt
    obtain ⟨cc5_10, cc5_11, cc5_12, -, -, -⟩ := KG.out.all
    have ll5_1 := KG.out.lt
    go_wp2_with fail
    refine (iParseMatrix l0 _ (by omega) (TB.out.below B.out)).mono ?_
    rintro e w7 ⟨vH, rfl, own, hb⟩
    rw [MRH.out] at own ⊢
    obtain ⟨qH, qcH, rfl, -, -⟩ := own.form
    have O0 := Lib.hid (O0.out.keep hb)
    have KO := Lib.hid (KO.out.step hb)
    have KG := Lib.hid (KG.out.step hb)
    have G0 := Lib.hid (G0.out.keep hb)
    have B := Lib.hid (stepB B.out hb)
    have H0 : Hid (In w6.heap.size w7.heap.size w7 (.slice qH mr.zs.length qcH) mr.zs) := by have := own.inn; (try simp at this); exact this
    have sw7 : w6.heap.size ≤ w7.heap.size := by have := hb.size; simpa using this
    have KH : Hid (Blk3 (w7.alloc (.cells #[.int .i64 mr.r, .int .i64 mr.c, .slice qH mr.zs.length qcH] 26)) w7.heap.size 26 (.int .i64 mr.r) (.int .i64 mr.c) (.slice qH mr.zs.length qcH)) := Blk3.at_ _ _ _ _ rfl
    have szH := own.small
    clear hb own
    obtain ⟨cc6_00, cc6_01, cc6_02, -, -, -⟩ := KO.out.all
    have ll6_0 := KO.out.lt
    obtain ⟨cc6_10, cc6_11, cc6_12, -, -, -⟩ := KG.out.all
    have ll6_1 := KG.out.lt
    go_wp2_with fail
    refine (eqM_t mr.r mr.c qH qO qcH qcO mr.zs _ (H0.out.old _).rd.2.1 (O0.out.old _).rd.2.1 szH).mono ?_
    rintro e w8 ⟨rfl, hb⟩
    have KH := Lib.hid (KH.out.step hb)
    have O0 := Lib.hid ((O0.out.old _).keep hb)
    have KO := Lib.hid ((KO.out.old _).step hb)
    have KG := Lib.hid ((KG.out.old _).step hb)
    have G0 := Lib.hid ((G0.out.old _).keep hb)
    have H0 := Lib.hid ((H0.out.old _).keep hb)
    have B := Lib.hid (stepB (B.out.alloc B.out.size _) hb)
    clear hb
    obtain ⟨cc7_00, cc7_01, cc7_02, -, -, -⟩ := KO.out.all
    have ll7_0 := KO.out.lt
    obtain ⟨cc7_10, cc7_11, cc7_12, -, -, -⟩ := KG.out.all
    have ll7_1 := KG.out.lt
    obtain ⟨cc7_20, cc7_21, cc7_22, -, -, -⟩ := KH.out.all
    have ll7_2 := KH.out.lt
    go_wp2_with fail
    refine (heldM mr.r mr.c qG qcG mr.zs.length 1 _ G0.out.rd.2.1 szG (by omega) (by omega)).mono ?_
    rintro e w9 ⟨rfl, hb⟩
    have O0 := Lib.hid (O0.out.keep hb)
    have KO := Lib.hid (KO.out.step hb)
    have KG := Lib.hid (KG.out.step hb)
    have G0 := Lib.hid (G0.out.keep hb)
    have H0 := Lib.hid (H0.out.keep hb)
    have KH := Lib.hid (KH.out.step hb)
    have B := Lib.hid (stepB B.out hb)
    clear hb
    obtain ⟨cc8_00, cc8_01, cc8_02, -, -, -⟩ := KO.out.all
    have ll8_0 := KO.out.lt
    obtain ⟨cc8_10, cc8_11, cc8_12, -, -, -⟩ := KG.out.all
    have ll8_1 := KG.out.lt
    obtain ⟨cc8_20, cc8_21, cc8_22, -, -, -⟩ := KH.out.all
    have ll8_2 := KH.out.lt
    go_wp2_with fail
    go_ret
    exact ⟨rfl, B.out⟩
  · have nb : (1048576 : Int) < l0.length := by omega
    clear bx0
    go_enter Tryd.func5, Tryd.ntmps5
    go_wp2_with fail
    go_ret
    exact ⟨rfl, Below.refl _ _⟩

/-! ### The row's step -/
/-- The tables that the row lists. -/
def tabs : List (String × DataW Unit) := [("math/bits.deBruijn32tab", Rows.laid_math_bits_deBruijn32tab), ("math/bits.deBruijn64tab", Rows.laid_math_bits_deBruijn64tab), ("internal/strconv.uint64pow10", Rows.laid_internal_strconv_uint64pow10), ("unicode/utf8.acceptRanges", Rows.laid_unicode_utf8_acceptRanges), ("unicode/utf8.first", Rows.laid_unicode_utf8_first)]
theorem tab_of_laid {W : World} (h : laidMetH Tryd.prog tabs W) : Tab W := by
  rw [MakeChecks.laidMetH_plain _ _ _ (by kernel_rfl)] at h
  have h1 := laidMet.tail (laidMet.tail (h))
  rw [pow_data] at h1
  exact Lib.tabIs_of_head gTab tab_type Tryd.underlying136 Tryd.underlying124 (by kernel_rfl) (by kernel_rfl) h1
set_option maxRecDepth 100000 in
theorem lifted (os : Os) (started : os.Started) (H : Type) (enc : TypeId × Value → H) :
    ReturnsInHanded {} Tryd.checked os 5 .any (fun w args => (Rows.fnExactParseMatrixSpec.pre enc Tryd.prog Tryd.f5 [] false w args ∧ laidMetH Tryd.prog tabs w) ∧ sizedMet enc Tryd.prog Tryd.f5 (OpenSpec.ofChange Rows.fnExactParseMatrixSpec) false w args)
      (Rows.fnExactParseMatrixSpec.post enc Tryd.prog Tryd.f5 false true false false) := by
  refine returnsInHanded_of_change_and (C := Tryd.checked) (X := fun w _ => laidMetH Tryd.prog tabs w) (fun _ _ _ hh h => h.of_heap hh) own started (by kernel_rfl) Tryd.func5
    (ChangeSpec.witness_shaped (enc := enc) (C := Tryd.checked) (os := os) (X := fun w _ => laidMetH Tryd.prog tabs w) false (World.laidAll Tryd.prog os tabs) #[.string ByteArray.empty] 8 (World.laidAll_os _ _ _) (World.shaped_of_ZipB (by kernel_rfl) (by kernel_rfl)) (by kernel_rfl) (by kernel_rfl) (by kernel_rfl)
      (by rw [MakeChecks.laidMetH_plain _ _ _ (by kernel_rfl)]; exact laidMet_laidAll _ (by kernel_rfl) (by kernel_rfl))) ?_
  intro W base args ds gs before hval0 hW _ _ hL _
  have tb := tab_of_laid hL
  have hval : ∀ (j : Nat) t v, Tryd.f5.params[j]? = some t → args[j]? = some v → Value.okWide Tryd.prog W .any base t v := hval0
  have hW' := hW
  obtain ⟨p, q, hA0, hV, rfl, hfz, hnd⟩ := hW
  have hA : DataW.TrodAll enc Tryd.prog W 0 (fun _ => true) true Tryd.f5.params.toList args.toList ds p := hA0
  rw [Tryd.params5] at hA hval
  obtain ⟨v0, vs0, d0, ds0, p0, q0, hargs, rfl, rfl, h0, r0⟩ := trodAll_cons hA
  obtain ⟨rfl, rfl, rfl⟩ := trodAll_nil r0
  obtain rfl : args = #[v0] := by cases args; simp_all
  obtain ⟨rfl, rfl⟩ := trodVars_none hV
  have k0 := h0
  have lt0 : ∀ x ∈ p0, x.block < W.heap.size := by obtain ⟨m, hm⟩ := k0; exact DataW.trod_lt m _ _ _ hm
  obtain ⟨a0, rfl, rfl, rfl, w0⟩ := open_string Tryd.underlying9 (hval 0 9 v0 rfl rfl) h0
  clear hA0 hval0
  refine (walk a0 W w0 tb).mono fun e W' ⟨he, bel⟩ => ?_
  subst he
  exact ⟨_, rfl, _, _, _, [], _, [], hW', trodAll_mk1 (shut_bool Tryd.underlying4 _), (trodAll_cons_mk (Below.trod laidOut (by kernel_rfl) (of_decide_eq_true (by kernel_rfl)) k0 bel lt0) trodAll_mk0), rfl, bel.frame _, fun h => by cases h⟩

theorem over : Rows.fnExactParseMatrixRow.holds Tryd.pinned (OpenSpec.ofChange Rows.fnExactParseMatrixSpec) :=
  OpenClaim.holds_of_wide 5 Tryd.f5 rfl rfl rfl rfl rfl rfl rfl ⟨rfl, rfl, rfl, rfl, rfl⟩ rfl rfl rfl rfl rfl (by kernel_rfl) Tryd.func5 (by kernel_rfl)
    (of_decide_eq_true (by kernel_rfl)) (by unfold Func.isWrapper; first | (rw [if_pos (by decide +kernel)]; kernel_rfl) | (rw [if_neg (by decide +kernel)]; exact ⟨rfl, rfl⟩))
    (fun os started H enc _ => lifted os started H enc)

/-- THE TIED CARD. -/
theorem proved : Rows.FnExactParseMatrixCardSaid :=
  Claim7.holds_tied_plain_at .later [] [.data, .data, .data, .data, .pinned] true (true, "439f8157583cb05e311ebcab45017c9861a8d354741c74d5a10c2030de0560c9") false
    over (fun _ h => by cases h) (by kernel_rfl) (fun _ h => by cases h) fnExactParseMatrix_row_tie rfl ⟨rfl, rfl⟩ (by kernel_rfl) rfl
    (fun f fn hf hfn => by
      obtain rfl : f = 5 := Option.some.inj ((show Tryd.prog.funcNamed "loop.example/g03411/laws.FnExactParseMatrix" = some 5 by kernel_rfl).symm.trans hf) |>.symm
      obtain rfl : fn = Tryd.f5 := (Option.some.inj (Tryd.func5.symm.trans hfn)).symm
      exact ⟨by kernel_rfl, fun j t ht => by
        rw [Tryd.params5] at ht
        have hm : t ∈ [9] := by simpa using Array.mem_of_getElem? ht
        have hall : ([9].all fun u => !Tryd.prog.wantsStandIn u) = true := by kernel_rfl
        exact (show Tryd.prog.wantsStandIn t = false by simpa using List.all_eq_true.1 hall t hm)⟩)
    (by kernel_rfl)
#print axioms proved
end Go.Proofs.YtihgcccdahmmmaaDoor.fnExactParseMatrix
