/-
  Proved: for every matrix, the law FnExactFactorsOf returns true: the program's FactorsOf answers as the model's, writes into no argument, and its answer owns its memory.
  Conditions: none beyond the row's own (the arguments read as data).
-/
import Derived.Test.YtpelnfenfeoeeaaRows
import Derived.ChangeOld
import Derived.Below
import Derived.Deep.RegionHeld3
import Derived.Deep.DeepCutAuto
import Derived.WalkKit
import Derived.ProofKit
import Derived.OpenShut
import Derived.ShutString
import Derived.Carry
import Derived.Lib.SmallJoins
import Derived.Test.YtpelnfenfeoeeaaPk33

namespace Go.Proofs.Ytpelnfenfeoeeaa.fnExactFactorsOf
open Go.ChangeShapes Go.WideShapes Go.ChangeAt Go.RowKit
open Go.ChangeMaps (open_string shut_string)
set_option linter.unusedVariables false

theorem own : ownKnob Try.prog.godebug = none := by kernel_rfl
theorem laidOut : laidOutB Try.prog = true := by kernel_rfl
theorem cells24 : Try.prog.cellsOf 24 = 3 := by kernel_rfl
/-- What the walk is told of a slice of integers that came in: it is nil; or it leads to a row of 'cap' cells, the numbers 'zs' (the first 'len' are its elements), each fitting its kind. -/
def IsRow (k : IntKind) (w : World) (a : Option Addr) (len cap : Nat) (zs : List Int) : Prop :=
  (a = none ∧ len = 0 ∧ cap = 0 ∧ zs = []) ∨
  ∃ x, a = some x ∧ len ≤ cap ∧ cap ≤ maxLen ∧ zs.length = cap ∧ (∀ i, i < zs.length → w.cell? (x.add i) = some (.int k (zs.getD i 0))) ∧ ∀ n ∈ zs, (Lit.int k n).wf = true
theorem isRow_of {H : Type} {enc : TypeId × Value → H} {P : Program} {W : World} {base : Nat} {held : Bool} {t e : TypeId} {k : IntKind} {a : Option Addr} {len cap fuel : Nat} {x : DataW H × List MemPlace}
    (ht : P.underlying t = some (.slice e)) (he : P.underlying e = some (.int k)) (hc : P.cellsOf e = 1) (hf : DataW.trod enc P W base (fun _ => true) held fuel t [.slice a len cap] = some x) : ∃ zs, IsRow k W a len cap zs := by
  rcases open_ints ht he hc hf with ⟨hcs, _⟩ | ⟨x, l, c, zs, hcs, _, hl, hm, hz, _, hcell, hwz⟩
  · simp at hcs
    obtain ⟨rfl, rfl, rfl⟩ := hcs
    exact ⟨[], .inl ⟨rfl, rfl, rfl, rfl⟩⟩
  · simp at hcs
    obtain ⟨rfl, rfl, rfl⟩ := hcs
    exact ⟨zs, .inr ⟨_, rfl, hl, hm, by simpa using hz, hcell, hwz⟩⟩
theorem codeRd {w : World} {a : Option Addr} {len cap : Nat} {zs : List Int} (h : IsRow .i64 w a len cap zs) : ∃ xs : List Int, Rd w a xs ∧ len = xs.length ∧ len ≤ 9223372036854775807 := by
  rcases h with ⟨rfl, rfl, rfl, rfl⟩ | ⟨x, rfl, hl, hm, hz, hcell, hwf⟩
  · exact ⟨[], Rd.nil _ _, rfl, by omega⟩
  · refine ⟨zs.take len, fun i hi => ?_, by simp; omega, by unfold maxLen at hm; omega⟩
    simp only [List.length_take] at hi
    obtain ⟨b, o, rfl, hc⟩ := ints_at hcell (by omega)
    refine ⟨b, o, rfl, ?_⟩
    rw [hc i (by omega)]
    simp [List.getD, show i < len by omega]
set_option maxRecDepth 100000 in
set_option maxHeartbeats 8000000 in

theorem walk (a0_0 : Int) (a0_1 : Int) (a0_2 : Option Addr) (len0_2 cap0_2 : Nat) (z0_2 : List Int) (w : World) (w0_0 : (Lit.int .i64 a0_0).wf = true) (w0_1 : (Lit.int .i64 a0_1).wf = true) (w0_2 : IsRow .i64 w a0_2 len0_2 cap0_2 z0_2) :
    Calls Try.prog 5 #[.agg #[.int .i64 a0_0, .int .i64 a0_1, .slice a0_2 len0_2 cap0_2]] w fun e w' => e = .returned (.bool true) ∧ Below w.heap.size w w' := by
  obtain ⟨xs0, hx, rfl, lx0⟩ := codeRd w0_2
  have HX0 := Lib.hid hx
  clear hx w0_2 w0_0 w0_1
  by_cases bx0 : xs0.length ≤ 1048576
  · go_enter Try.func5, Try.ntmps5
    go_wp2_with fail
    refine (szM a0_0 a0_1 a0_2 xs0.length cap0_2 (1048576) _ (by omega) (by omega)).mono ?_
    rintro e w2 ⟨rfl, hb⟩
    have P0 : Hid (Blk3 w2 w.heap.size 24 (.int .i64 a0_0) (.int .i64 a0_1) (.slice a0_2 xs0.length cap0_2)) := (Blk3.at_ _ _ _ _ rfl).keep hb (by simp)
    have B : Hid (Below w.heap.size w w2) := ((Below.refl _ _).alloc (Nat.le_refl _) _).trans (hb.mono (by simp))
    clear hb
    obtain ⟨cc1_00, cc1_01, cc1_02, -, -, -⟩ := P0.out.all
    have ll1_0 := P0.out.lt
    go_wp2_with fail
    obtain ⟨rl, hrl⟩ : ∃ rl, (fcX a0_0 a0_1 xs0).1 = rl := ⟨_, rfl⟩
    have RLH := Lib.hid hrl
    obtain ⟨ok, hok⟩ : ∃ ok, (fcX a0_0 a0_1 xs0).2 = ok := ⟨_, rfl⟩
    have OKH := Lib.hid hok
    clear hrl hok
    refine (toM a0_0 a0_1 a0_2 cap0_2 xs0 _ (HX0.out.below B.out) (by omega)).mono ?_
    rintro e w3 ⟨gO0, rfl, gg, gi, hb⟩
    have P0 := Lib.hid (P0.out.step hb)
    have B := Lib.hid (stepB B.out hb)
    have IO0 := Lib.hid gi
    clear hb gg gi
    obtain ⟨cc2_00, cc2_01, cc2_02, -, -, -⟩ := P0.out.all
    have ll2_0 := P0.out.lt
    go_wp2_with fail
    refine (sFactors a0_0 a0_1 (some ⟨gO0, 0, none⟩) xs0.length xs0 _ IO0.out.rd (by omega) (Spot.of _ _)).mono ?_
    rintro e w4 ⟨vO, rfl, own, hb⟩
    rw [RLH.out] at own
    rw [OKH.out]
    obtain ⟨qO, qcO, rfl, -, -⟩ := own.form
    have P0 := Lib.hid (P0.out.step hb)
    have B := Lib.hid (stepB B.out hb)
    have O0 : Hid (In w3.heap.size w4.heap.size w4 (.slice qO rl.length qcO) rl) := by have := own.inn; (try simp at this); exact this
    have sw4 : w3.heap.size ≤ w4.heap.size := by have := hb.size; simpa using this
    have szO := own.small
    clear hb own
    obtain ⟨cc3_00, cc3_01, cc3_02, -, -, -⟩ := P0.out.all
    have ll3_0 := P0.out.lt
    go_wp2_with fail
    refine (toM a0_0 a0_1 a0_2 cap0_2 xs0 _ (HX0.out.below B.out) (by omega)).mono ?_
    rintro e w5 ⟨gx0, rfl, ggx, gix, hb⟩
    have P0 := Lib.hid (P0.out.step hb)
    have O0 := Lib.hid (O0.out.keep hb)
    have B := Lib.hid (stepB B.out hb)
    have X0 : Hid (In w4.heap.size w5.heap.size w5 (.slice (some ⟨gx0, 0, none⟩) xs0.length xs0.length) xs0) := In.of_new ggx gix (by omega)
    have sw5 : w4.heap.size ≤ w5.heap.size := by have := hb.size; simpa using this
    have KX0 : Hid (Blk3 (w5.alloc (.cells #[.int .i64 a0_0, .int .i64 a0_1, .slice (some ⟨gx0, 0, none⟩) xs0.length xs0.length] 26)) w5.heap.size 26 (.int .i64 a0_0) (.int .i64 a0_1) (.slice (some ⟨gx0, 0, none⟩) xs0.length xs0.length)) := Blk3.at_ _ _ _ _ rfl
    clear hb ggx gix
    obtain ⟨cc4_00, cc4_01, cc4_02, -, -, -⟩ := P0.out.all
    have ll4_0 := P0.out.lt
    go_wp2_with fail
    refine (iFactors a0_0 a0_1 (some ⟨gx0, 0, none⟩) xs0.length xs0 _ (X0.out.old _).rd.2.1 (by omega)).mono ?_
    rintro e w6 ⟨vG, rfl, own, hb⟩
    rw [RLH.out] at own
    rw [OKH.out]
    obtain ⟨qG, qcG, rfl, -, -⟩ := own.form
    have KX0 := Lib.hid (KX0.out.step hb)
    have P0 := Lib.hid ((P0.out.old _).step hb)
    have O0 := Lib.hid ((O0.out.old _).keep hb)
    have X0 := Lib.hid ((X0.out.old _).keep hb)
    have B := Lib.hid (stepB (B.out.alloc B.out.size _) hb)
    have G0 : Hid (In (w5.heap.size + 1) w6.heap.size w6 (.slice qG rl.length qcG) rl) := by have := own.inn; (try simp at this); exact this
    have sw6 : (w5.heap.size + 1) ≤ w6.heap.size := by have := hb.size; simpa using this
    have szG := own.small
    clear hb own
    obtain ⟨cc5_00, cc5_01, cc5_02, -, -, -⟩ := P0.out.all
    have ll5_0 := P0.out.lt
    obtain ⟨cc5_10, cc5_11, cc5_12, -, -, -⟩ := KX0.out.all
    have ll5_1 := KX0.out.lt
    go_wp2_with fail
    refine (eqI_g qG qO qcG qcO rl _ G0.out.rd.2.1 O0.out.rd.2.1 szG).mono ?_
    rintro e w7 ⟨rfl, hb⟩
    have P0 := Lib.hid (P0.out.step hb)
    have O0 := Lib.hid (O0.out.keep hb)
    have X0 := Lib.hid (X0.out.keep hb)
    have KX0 := Lib.hid (KX0.out.step hb)
    have G0 := Lib.hid (G0.out.keep hb)
    have B := Lib.hid (stepB B.out hb)
    clear hb
    obtain ⟨cc6_00, cc6_01, cc6_02, -, -, -⟩ := P0.out.all
    have ll6_0 := P0.out.lt
    obtain ⟨cc6_10, cc6_11, cc6_12, -, -, -⟩ := KX0.out.all
    have ll6_1 := KX0.out.lt
    go_wp2_with fail
    refine wp_region_held_drew (S := fun w' => Below w7.heap.size w7 w') (by kernel_rfl) (Below.refl _ _).drew (fun hH => ?_)
    refine wpAnyH_take (i := 0) (v := ?_) (by simp only [List.getElem?_toArray, List.getElem?_cons_zero]; rfl) (by kernel_rfl) (by kernel_rfl) (by kernel_rfl) (by exact fun _ _ _ h => h) (Or.inl ⟨by rfl, ?_⟩) hH ?_
    rotate_left
    · (intro wS hS; (try dsimp only at hS); obtain ⟨k1, k2, k3, k4, k5, k6⟩ := six KX0.out P0.out hS; go_simp; try rfl)
    try simp only [Act.put, List.setIfInBounds_toArray, List.set_cons_zero, List.set_cons_succ]
    refine wpAnyH_take (i := 1) (v := ?_) (by simp only [List.getElem?_toArray, List.getElem?_cons_succ, List.getElem?_cons_zero]; rfl) (by kernel_rfl) (by kernel_rfl) (by kernel_rfl) (by exact fun _ _ _ h => h) (Or.inl ⟨by rfl, ?_⟩) hH ?_
    rotate_left
    · (intro wS hS; (try dsimp only at hS); obtain ⟨k1, k2, k3, k4, k5, k6⟩ := six KX0.out P0.out hS; go_simp; try rfl)
    try simp only [Act.put, List.setIfInBounds_toArray, List.set_cons_zero, List.set_cons_succ]
    refine wpAnyH_ready (rs := [2]) (by kernel_rfl) (by simp) ?_
    refine AllReadyH.cons (by simp only [List.getElem?_toArray, List.getElem?_cons_succ, List.getElem?_cons_zero]; rfl) (fun K hK => ?_) AllReadyH.nil
    go_simp
    (with_reducible refine (toM a0_0 a0_1 a0_2 cap0_2 xs0 _ (HX0.out.below (stepB B.out hH)) (by omega)).mono ?_)
    rintro e v30 ⟨g30, rfl, gg30, gi30, hb30⟩
    have I30 := Lib.hid gi30
    clear gi30 gg30
    try dsimp only
    refine hK.out _ _ ?_ (fun hH2 => ?_)
    · exact hH.trans (hb30.mono hH.size)
    clear hK K hH
    have hH := hH2
    clear hH2
    try simp only [Act.put, List.setIfInBounds_toArray, List.set_cons_zero, List.set_cons_succ]
    refine wpAnyH_ready (rs := [3]) (by kernel_rfl) (by simp) ?_
    refine AllReadyH.cons (by simp only [List.getElem?_toArray, List.getElem?_cons_succ, List.getElem?_cons_zero]; rfl) (fun K hK => ?_) AllReadyH.nil
    go_simp
    (with_reducible refine (eqM_t a0_0 a0_1 (some ⟨gx0, 0, none⟩) (some ⟨g30, 0, none⟩) xs0.length xs0.length xs0 _ (X0.out.keep hH).rd.2.1 I30.out.rd (by omega)).mono ?_)
    rintro e v31 ⟨rfl, hb31⟩
    try dsimp only
    refine hK.out _ _ ?_ (fun hH2 => ?_)
    · exact hH.trans (hb31.mono hH.size)
    clear hK K hH
    have hH := hH2
    clear hH2
    try simp only [Act.put, List.setIfInBounds_toArray, List.set_cons_zero, List.set_cons_succ]
    refine wpAnyH_take (i := 4) (v := ?_) (by simp only [List.getElem?_toArray, List.getElem?_cons_succ, List.getElem?_cons_zero]; rfl) (by kernel_rfl) (by kernel_rfl) (by kernel_rfl) (by exact fun _ _ _ h => h) (Or.inl ⟨by rfl, ?_⟩) hH ?_
    rotate_left
    · (intro wS hS; clear hS; go_simp; try rfl)
    try simp only [Act.put, List.setIfInBounds_toArray, List.set_cons_zero, List.set_cons_succ]
    refine wpAnyH_done (by kernel_rfl) ?_ _
    have hb := hH
    clear hH hb30 hb31
    have P0 := Lib.hid (P0.out.step hb)
    have O0 := Lib.hid (O0.out.keep hb)
    have X0 := Lib.hid (X0.out.keep hb)
    have KX0 := Lib.hid (KX0.out.step hb)
    have G0 := Lib.hid (G0.out.keep hb)
    have B := Lib.hid (stepB B.out hb)
    clear hb I30
    obtain ⟨cc7_00, cc7_01, cc7_02, -, -, -⟩ := P0.out.all
    have ll7_0 := P0.out.lt
    obtain ⟨cc7_10, cc7_11, cc7_12, -, -, -⟩ := KX0.out.all
    have ll7_1 := KX0.out.lt
    go_wp2_with fail
    refine (markIn a0_0 a0_1 (some ⟨gx0, 0, none⟩) xs0.length xs0.length xs0 (1) _ X0.out (by omega) (by omega)).mono ?_
    rintro e w8 ⟨rfl, inn, hc⟩
    have P0 := Lib.hid (P0.out.chg hc (by omega))
    have O0 := Lib.hid (O0.out.chg hc (by omega))
    have KX0 := Lib.hid (KX0.out.chg hc (by omega))
    have G0 := Lib.hid (G0.out.chg hc (by omega))
    have B := Lib.hid (Below.chg B.out hc (by omega) B.out.size)
    have X0 := Lib.hid inn
    clear hc inn
    obtain ⟨cc8_00, cc8_01, cc8_02, -, -, -⟩ := P0.out.all
    have ll8_0 := P0.out.lt
    obtain ⟨cc8_10, cc8_11, cc8_12, -, -, -⟩ := KX0.out.all
    have ll8_1 := KX0.out.lt
    go_wp2_with fail
    refine (eqI_g qG qO qcG qcO rl _ G0.out.rd.2.1 O0.out.rd.2.1 szG).mono ?_
    rintro e w9 ⟨rfl, hb⟩
    have P0 := Lib.hid (P0.out.step hb)
    have O0 := Lib.hid (O0.out.keep hb)
    have KX0 := Lib.hid (KX0.out.step hb)
    have G0 := Lib.hid (G0.out.keep hb)
    have B := Lib.hid (stepB B.out hb)
    clear hb
    obtain ⟨cc9_00, cc9_01, cc9_02, -, -, -⟩ := P0.out.all
    have ll9_0 := P0.out.lt
    obtain ⟨cc9_10, cc9_11, cc9_12, -, -, -⟩ := KX0.out.all
    have ll9_1 := KX0.out.lt
    go_wp2_with fail
    refine (markInI qG rl.length qcG rl 1 _ G0.out (by omega) (by omega)).mono ?_
    rintro e w10 ⟨rfl, inn, hc⟩
    have P0 := Lib.hid (P0.out.chg hc (by omega))
    have O0 := Lib.hid (O0.out.chg hc (by omega))
    have KX0 := Lib.hid (KX0.out.chg hc (by omega))
    have B := Lib.hid (Below.chg B.out hc (by omega) B.out.size)
    have G0 := Lib.hid inn
    clear hc inn
    obtain ⟨cc10_00, cc10_01, cc10_02, -, -, -⟩ := P0.out.all
    have ll10_0 := P0.out.lt
    obtain ⟨cc10_10, cc10_11, cc10_12, -, -, -⟩ := KX0.out.all
    have ll10_1 := KX0.out.lt
    go_wp2_with fail
    refine (heldI_g qG qcG rl.length 1 _ G0.out.rd.2.1 szG (by omega) (by omega)).mono ?_
    rintro e w11 ⟨rfl, hb⟩
    have P0 := Lib.hid (P0.out.step hb)
    have O0 := Lib.hid (O0.out.keep hb)
    have KX0 := Lib.hid (KX0.out.step hb)
    have G0 := Lib.hid (G0.out.keep hb)
    have B := Lib.hid (stepB B.out hb)
    clear hb
    obtain ⟨cc11_00, cc11_01, cc11_02, -, -, -⟩ := P0.out.all
    have ll11_0 := P0.out.lt
    obtain ⟨cc11_10, cc11_11, cc11_12, -, -, -⟩ := KX0.out.all
    have ll11_1 := KX0.out.lt
    go_wp2_with fail
    refine (toM a0_0 a0_1 a0_2 cap0_2 xs0 _ (HX0.out.below B.out) (by omega)).mono ?_
    rintro e w12 ⟨gH0, rfl, gg, gi, hb⟩
    have P0 := Lib.hid (P0.out.step hb)
    have O0 := Lib.hid (O0.out.keep hb)
    have KX0 := Lib.hid (KX0.out.step hb)
    have G0 := Lib.hid (G0.out.keep hb)
    have B := Lib.hid (stepB B.out hb)
    have IH0 := Lib.hid gi
    clear hb gg gi
    obtain ⟨cc12_00, cc12_01, cc12_02, -, -, -⟩ := P0.out.all
    have ll12_0 := P0.out.lt
    obtain ⟨cc12_10, cc12_11, cc12_12, -, -, -⟩ := KX0.out.all
    have ll12_1 := KX0.out.lt
    go_wp2_with fail
    refine (iFactors a0_0 a0_1 (some ⟨gH0, 0, none⟩) xs0.length xs0 _ IH0.out.rd (by omega)).mono ?_
    rintro e w13 ⟨vH, rfl, own, hb⟩
    rw [RLH.out] at own
    rw [OKH.out]
    obtain ⟨qH, qcH, rfl, -, -⟩ := own.form
    have P0 := Lib.hid (P0.out.step hb)
    have O0 := Lib.hid (O0.out.keep hb)
    have KX0 := Lib.hid (KX0.out.step hb)
    have G0 := Lib.hid (G0.out.keep hb)
    have B := Lib.hid (stepB B.out hb)
    have H0 : Hid (In w12.heap.size w13.heap.size w13 (.slice qH rl.length qcH) rl) := by have := own.inn; (try simp at this); exact this
    have sw13 : w12.heap.size ≤ w13.heap.size := by have := hb.size; simpa using this
    have szH := own.small
    clear hb own
    obtain ⟨cc13_00, cc13_01, cc13_02, -, -, -⟩ := P0.out.all
    have ll13_0 := P0.out.lt
    obtain ⟨cc13_10, cc13_11, cc13_12, -, -, -⟩ := KX0.out.all
    have ll13_1 := KX0.out.lt
    go_wp2_with fail
    refine (eqI_g qH qO qcH qcO rl _ H0.out.rd.2.1 O0.out.rd.2.1 szH).mono ?_
    rintro e w14 ⟨rfl, hb⟩
    have P0 := Lib.hid (P0.out.step hb)
    have O0 := Lib.hid (O0.out.keep hb)
    have KX0 := Lib.hid (KX0.out.step hb)
    have G0 := Lib.hid (G0.out.keep hb)
    have H0 := Lib.hid (H0.out.keep hb)
    have B := Lib.hid (stepB B.out hb)
    clear hb
    obtain ⟨cc14_00, cc14_01, cc14_02, -, -, -⟩ := P0.out.all
    have ll14_0 := P0.out.lt
    obtain ⟨cc14_10, cc14_11, cc14_12, -, -, -⟩ := KX0.out.all
    have ll14_1 := KX0.out.lt
    go_wp2_with fail
    refine (heldI_g qG qcG rl.length 1 _ G0.out.rd.2.1 szG (by omega) (by omega)).mono ?_
    rintro e w15 ⟨rfl, hb⟩
    have P0 := Lib.hid (P0.out.step hb)
    have O0 := Lib.hid (O0.out.keep hb)
    have KX0 := Lib.hid (KX0.out.step hb)
    have G0 := Lib.hid (G0.out.keep hb)
    have H0 := Lib.hid (H0.out.keep hb)
    have B := Lib.hid (stepB B.out hb)
    clear hb
    obtain ⟨cc15_00, cc15_01, cc15_02, -, -, -⟩ := P0.out.all
    have ll15_0 := P0.out.lt
    obtain ⟨cc15_10, cc15_11, cc15_12, -, -, -⟩ := KX0.out.all
    have ll15_1 := KX0.out.lt
    go_wp2_with fail
    go_ret
    exact ⟨rfl, B.out⟩
  · go_enter Try.func5, Try.ntmps5
    go_wp2_with fail
    refine (szM_f a0_0 a0_1 a0_2 xs0.length cap0_2 (1048576) _ (by omega) (by omega) (by omega)).mono ?_
    rintro e w2 ⟨rfl, hb⟩
    have P0 : Hid (Blk3 w2 w.heap.size 24 (.int .i64 a0_0) (.int .i64 a0_1) (.slice a0_2 xs0.length cap0_2)) := (Blk3.at_ _ _ _ _ rfl).keep hb (by simp)
    have B : Hid (Below w.heap.size w w2) := ((Below.refl _ _).alloc (Nat.le_refl _) _).trans (hb.mono (by simp))
    clear hb
    obtain ⟨cs0_00, cs0_01, cs0_02, -, -, -⟩ := P0.out.all
    go_wp2_with fail
    go_ret
    exact ⟨rfl, B.out⟩

/-! ### The row's step -/
set_option maxRecDepth 100000 in
theorem lifted (os : Os) (started : os.Started) (H : Type) (enc : TypeId × Value → H) :
    ReturnsInHanded {} Try.checked os 5 .any (Rows.fnExactFactorsOfSpec.pre6 enc Try.prog Try.f5 Rows.fnExactFactorsOfRow.domain false) (Rows.fnExactFactorsOfSpec.post enc Try.prog Try.f5 false true false false) := by
  refine returnsInHanded_of_change (C := Try.checked) own started (by kernel_rfl) Try.func5
    (ChangeSpec.witness6 (enc := enc) (C := Try.checked) false ⟨#[], #[.agg #[.int .i64 0, .int .i64 0, .slice none 0 0]], []⟩ 8 (by kernel_rfl) (by kernel_rfl) (by kernel_rfl) (by kernel_rfl)) ?_
  intro W base args ds gs before hval0 hW hcnd _
  have hval : ∀ (j : Nat) t v, Try.f5.params[j]? = some t → args[j]? = some v → Value.okWide Try.prog W .any base t v := hval0
  have hW' := hW
  obtain ⟨p, q, hA0, hV, rfl, hfz, hnd⟩ := hW
  have hA : DataW.TrodAll enc Try.prog W 0 (fun _ => true) true Try.f5.params.toList args.toList ds p := hA0
  rw [Try.params5] at hA hval
  obtain ⟨v0, vs0, d0, ds0, p0, q0, hargs, rfl, rfl, h0, r0⟩ := trodAll_cons hA
  obtain ⟨rfl, rfl, rfl⟩ := trodAll_nil r0
  obtain rfl : args = #[v0] := by cases args; simp_all
  obtain ⟨rfl, rfl⟩ := trodVars_none hV
  have k0 := h0
  have lt0 : ∀ x ∈ p0, x.block < W.heap.size := by obtain ⟨m, hm⟩ := k0; exact DataW.trod_lt m _ _ _ hm
  obtain ⟨c0_0, c0_1, c0_2, y0_0, y0_1, y0_2, m0, rfl, rfl, rfl, hy0_0, hy0_1, hy0_2⟩ := Joins.open_agg3 Try.underlying24 (by kernel_rfl) cells24 (hval 0 24 v0 rfl rfl) h0
  obtain ⟨a0_0, e0_0, rfl, w0_0⟩ := DataW.trod_int Try.underlying3 hy0_0
  simp only [List.cons.injEq, and_true] at e0_0
  subst e0_0
  obtain ⟨a0_1, e0_1, rfl, w0_1⟩ := DataW.trod_int Try.underlying3 hy0_1
  simp only [List.cons.injEq, and_true] at e0_1
  subst e0_1
  obtain ⟨a0_2, len0_2, cap0_2, e0_2⟩ := Joins.slice_form Try.underlying22 hy0_2
  simp only [List.cons.injEq, and_true] at e0_2
  subst e0_2
  obtain ⟨z0_2, w0_2⟩ : ∃ zs, IsRow .i64 W a0_2 len0_2 cap0_2 zs := isRow_of Try.underlying22 Try.underlying3 (by kernel_rfl) hy0_2
  clear hA0 hval0
  refine (walk a0_0 a0_1 a0_2 len0_2 cap0_2 z0_2 W w0_0 w0_1 w0_2).mono fun e W' ⟨he, bel⟩ => ?_
  subst he
  exact ⟨_, rfl, _, _, _, [], _, [], hW', trodAll_mk1 (shut_bool Try.underlying4 _), (trodAll_cons_mk (Below.trod laidOut (by kernel_rfl) (of_decide_eq_true (by kernel_rfl)) k0 bel lt0) trodAll_mk0), rfl, bel.frame _, fun h => by cases h⟩

theorem over : Rows.fnExactFactorsOfRow.holds Try.pinned (OpenSpec.ofChange Rows.fnExactFactorsOfSpec) :=
  OpenClaim.holds_of_wide 5 Try.f5 rfl rfl rfl rfl rfl rfl rfl ⟨rfl, rfl, rfl, rfl, rfl⟩ rfl rfl rfl rfl rfl (by kernel_rfl) Try.func5 (by kernel_rfl)
    (of_decide_eq_true (by kernel_rfl)) (by unfold Func.isWrapper; first | (rw [if_pos (by decide +kernel)]; kernel_rfl) | (rw [if_neg (by decide +kernel)]; exact ⟨rfl, rfl⟩))
    (fun os started H enc _ => lifted os started H enc)

/-- ████ THE STATEMENT ████ -/
theorem proved : Rows.FnExactFactorsOfSaid := over
#print axioms proved
end Go.Proofs.Ytpelnfenfeoeeaa.fnExactFactorsOf
