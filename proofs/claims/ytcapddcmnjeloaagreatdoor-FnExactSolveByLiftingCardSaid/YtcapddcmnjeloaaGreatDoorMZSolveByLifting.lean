/-
  Proved: for every matrix and list of numbers, the law FnExactSolveByLifting returns true: the program's SolveByLifting answers as the model's, writes into no argument, and its list is its own.
  Conditions: none beyond the row's own (the arguments read as data; the library's tables read as the program's text lays them, which the card ties).
-/
import Derived.Test.YtcapddcmnjeloaaGreatDoorRows
import Derived.Test.YtcapddcmnjeloaaGreatDoorTie
import Derived.Test.YtcapddcmnjeloaaGreatDoorCards
import Derived.SevenTiedAt
import Derived.Lay
import Derived.LaidMore
import Derived.LaidHandle
import Derived.LaidSub
import Derived.Stop.Joined
import Derived.ChangeOld
import Derived.Below
import Derived.Deep.RegionHeld3
import Derived.Deep.DeepCutAuto
import Derived.WalkKit
import Derived.ProofKit
import Derived.OpenShut
import Derived.ShutString
import Derived.Carry
import Derived.Lib.SmallJoins
import Derived.Test.YtcapddcmnjeloaaGreatDoorPk24
import Derived.Test.YtcapddcmnjeloaaGreatDoorPk28
import Derived.Test.YtcapddcmnjeloaaGreatDoorPk32

namespace Go.Proofs.YtcapddcmnjeloaaGreatDoor.fnExactSolveByLifting
open Go.ChangeShapes Go.WideShapes Go.ChangeAt Go.RowKit
open Go.ChangeMaps (open_string shut_string)
set_option linter.unusedVariables false

theorem own : ownKnob Tryz.prog.godebug = none := by kernel_rfl
theorem laidOut : laidOutB Tryz.prog = true := by kernel_rfl
theorem cells46 : Tryz.prog.cellsOf 46 = 3 := by kernel_rfl
/-- What the walk is told of a slice of integers that came in: it is nil; or it leads to a row of 'cap' cells, the numbers 'zs' (the first 'len' are its elements), each fitting its kind. -/
def IsRow (k : IntKind) (w : World) (a : Option Addr) (len cap : Nat) (zs : List Int) : Prop :=
  (a = none ∧ len = 0 ∧ cap = 0 ∧ zs = []) ∨
  ∃ x, a = some x ∧ len ≤ cap ∧ cap ≤ maxLen ∧ zs.length = cap ∧ (∀ i, i < zs.length → w.cell? (x.add i) = some (.int k (zs.getD i 0))) ∧ ∀ n ∈ zs, (Lit.int k n).wf = true
theorem isRow_of {H : Type} {enc : TypeId × Value → H} {P : Program} {W : World} {base : Nat} {held : Bool} {t e : TypeId} {k : IntKind} {a : Option Addr} {len cap fuel : Nat} {x : DataW H × List MemPlace}
    (ht : P.underlying t = some (.slice e)) (he : P.underlying e = some (.int k)) (hc : P.cellsOf e = 1) (hf : DataW.trod enc P W base (fun _ => true) held fuel t [.slice a len cap] = some x) : ∃ zs, IsRow k W a len cap zs := by
  rcases open_ints ht he hc hf with ⟨hcs, _⟩ | ⟨x, l, c, zs, hcs, _, hl, hm, hz, _, hcell, hwz⟩
  · simp at hcs
    obtain ⟨rfl, rfl, rfl⟩ := hcs
    exact ⟨[], .inl ⟨rfl, rfl, rfl, rfl⟩⟩
  · simp at hcs
    obtain ⟨rfl, rfl, rfl⟩ := hcs
    exact ⟨zs, .inr ⟨_, rfl, hl, hm, by simpa using hz, hcell, hwz⟩⟩
theorem codeRd {w : World} {a : Option Addr} {len cap : Nat} {zs : List Int} (h : IsRow .i64 w a len cap zs) : ∃ xs : List Int, Rd w a xs ∧ len = xs.length ∧ len ≤ 9223372036854775807 := by
  rcases h with ⟨rfl, rfl, rfl, rfl⟩ | ⟨x, rfl, hl, hm, hz, hcell, hwf⟩
  · exact ⟨[], Rd.nil _ _, rfl, by omega⟩
  · refine ⟨zs.take len, fun i hi => ?_, by simp; omega, by unfold maxLen at hm; omega⟩
    simp only [List.length_take] at hi
    obtain ⟨b, o, rfl, hc⟩ := ints_at hcell (by omega)
    refine ⟨b, o, rfl, ?_⟩
    rw [hc i (by omega)]
    simp [List.getD, show i < len by omega]
set_option maxRecDepth 100000 in
set_option maxHeartbeats 8000000 in

theorem walk (a0_0 : Int) (a0_1 : Int) (a0_2 : Option Addr) (len0_2 cap0_2 : Nat) (z0_2 : List Int) (a1 : Option Addr) (len1 cap1 : Nat) (z1 : List Int) (w : World) (w0_0 : (Lit.int .i64 a0_0).wf = true) (w0_1 : (Lit.int .i64 a0_1).wf = true) (w0_2 : IsRow .i64 w a0_2 len0_2 cap0_2 z0_2) (w1 : IsRow .i64 w a1 len1 cap1 z1) (tb : TabE w) :
    Calls Tryz.prog 5 #[.agg #[.int .i64 a0_0, .int .i64 a0_1, .slice a0_2 len0_2 cap0_2], .slice a1 len1 cap1] w fun e w' => e = .returned (.bool true) ∧ Below w.heap.size w w' := by
  have TB := Lib.hid tb
  clear tb
  obtain ⟨xs0, hx, rfl, lx0⟩ := codeRd w0_2
  have HX0 := Lib.hid hx
  clear hx w0_2 w0_0 w0_1
  obtain ⟨xs1, hx, rfl, lx1⟩ := codeRd w1
  have HX1 := Lib.hid hx
  clear hx w1
  by_cases by1 : xs1.length ≤ 1048576
  · have nb : decide ((1048576 : Int) < xs1.length) = false := decide_eq_false (by omega)
    by_cases bx0 : xs0.length ≤ 1048576
    · go_enter Tryz.func5, Tryz.ntmps5
      go_wp2_with fail
      refine (szM a0_0 a0_1 a0_2 xs0.length cap0_2 (1048576) _ (by omega) (by omega)).mono ?_
      rintro e w2 ⟨rfl, hb⟩
      have P0 : Hid (Blk3 w2 w.heap.size 46 (.int .i64 a0_0) (.int .i64 a0_1) (.slice a0_2 xs0.length cap0_2)) := (Blk3.at_ _ _ _ _ rfl).keep hb (by simp)
      have B : Hid (Below w.heap.size w w2) := ((Below.refl _ _).alloc (Nat.le_refl _) _).trans (hb.mono (by simp))
      clear hb
      obtain ⟨cc1_00, cc1_01, cc1_02, -, -, -⟩ := P0.out.all
      have ll1_0 := P0.out.lt
      go_wp2_with fail
      obtain ⟨rl, hrl⟩ : ∃ rl, (slX a0_0 a0_1 xs0 xs1).1 = rl := ⟨_, rfl⟩
      have RLH := Lib.hid hrl
      have lrl : rl.length ≤ 1048576 := by rw [← hrl]; exact Nat.le_trans (sl_max a0_0 a0_1 xs0 xs1) (by decide)
      obtain ⟨ok, hok⟩ : ∃ ok, (slX a0_0 a0_1 xs0 xs1).2 = ok := ⟨_, rfl⟩
      have OKH := Lib.hid hok
      clear hrl hok
      refine (toM a0_0 a0_1 a0_2 cap0_2 xs0 _ (HX0.out.below B.out) (by omega)).mono ?_
      rintro e w3 ⟨gO0, rfl, gg, gi, hb⟩
      have P0 := Lib.hid (P0.out.step hb)
      have B := Lib.hid (stepB B.out hb)
      have IO0 := Lib.hid gi
      clear hb gg gi
      obtain ⟨cc2_00, cc2_01, cc2_02, -, -, -⟩ := P0.out.all
      have ll2_0 := P0.out.lt
      go_wp2_with fail
      refine (toI a1 cap1 xs1 _ (HX1.out.below B.out) (by omega)).mono ?_
      rintro e w4 ⟨rfl, gi, hb⟩
      have P0 := Lib.hid (P0.out.step hb)
      have IO0 := Lib.hid (IO0.out.keep hb IO0.out.lt)
      have B := Lib.hid (stepB B.out hb)
      have IY := Lib.hid gi
      clear hb gi
      obtain ⟨cc3_00, cc3_01, cc3_02, -, -, -⟩ := P0.out.all
      have ll3_0 := P0.out.lt
      go_wp2_with fail
      refine (sSl a0_0 a0_1 (some ⟨gO0, 0, none⟩) xs0.length xs0 (some ⟨w3.heap.size, 0, none⟩) xs1.length xs1 _ IO0.out.rd (Spot.of _ _) (by omega) IY.out.rd (Spot.of _ _) (by omega)).mono ?_
      rintro e w5 ⟨vO, rfl, own, hb⟩
      rw [RLH.out] at own
      rw [OKH.out]
      obtain ⟨qO, qcO, rfl⟩ := own.form
      have P0 := Lib.hid (P0.out.step hb)
      have B := Lib.hid (stepB B.out hb)
      have O0 : Hid (InQ w4.heap.size w5.heap.size w5 (.slice qO rl.length qcO) rl) := by have := own.inn lrl; (try simp at this); exact this
      have sw5 : w4.heap.size ≤ w5.heap.size := by have := hb.size; simpa using this
      have szO : rl.length ≤ 1048576 := lrl
      clear hb own
      obtain ⟨cc4_00, cc4_01, cc4_02, -, -, -⟩ := P0.out.all
      have ll4_0 := P0.out.lt
      go_wp2_with fail
      refine (toM a0_0 a0_1 a0_2 cap0_2 xs0 _ (HX0.out.below B.out) (by omega)).mono ?_
      rintro e w6 ⟨gx0, rfl, ggx, gix, hb⟩
      have P0 := Lib.hid (P0.out.step hb)
      have O0 := Lib.hid (O0.out.keep hb)
      have B := Lib.hid (stepB B.out hb)
      have X0 : Hid (In w5.heap.size w6.heap.size w6 (.slice (some ⟨gx0, 0, none⟩) xs0.length xs0.length) xs0) := In.of_new ggx gix (by omega)
      have sw6 : w5.heap.size ≤ w6.heap.size := by have := hb.size; simpa using this
      have KX0 : Hid (Blk3 (w6.alloc (.cells #[.int .i64 a0_0, .int .i64 a0_1, .slice (some ⟨gx0, 0, none⟩) xs0.length xs0.length] 26)) w6.heap.size 26 (.int .i64 a0_0) (.int .i64 a0_1) (.slice (some ⟨gx0, 0, none⟩) xs0.length xs0.length)) := Blk3.at_ _ _ _ _ rfl
      clear hb ggx gix
      obtain ⟨cc5_00, cc5_01, cc5_02, -, -, -⟩ := P0.out.all
      have ll5_0 := P0.out.lt
      go_wp2_with fail
      refine (toIg a1 cap1 xs1 _ (HX1.out.below (B.out.alloc B.out.size _)) (by omega)).mono ?_
      rintro e w7 ⟨gy1, rfl, hgz, gi, hb⟩
      have KX0 := Lib.hid (KX0.out.step hb)
      have P0 := Lib.hid ((P0.out.old _).step hb)
      have O0 := Lib.hid ((O0.out.old _).keep hb)
      have X0 := Lib.hid ((X0.out.old _).keep hb)
      have B := Lib.hid (stepB (B.out.alloc B.out.size _) hb)
      have hgy : gy1 = (w6.heap.size + 1) := by rw [hgz]; try simp
      have lgy1 : (w6.heap.size + 1) ≤ gy1 := by omega
      clear hgy hgz
      have sw7 : gy1 < w7.heap.size := gi.lt
      have Y1 : Hid (In gy1 w7.heap.size w7 (.slice (some ⟨gy1, 0, none⟩) xs1.length xs1.length) xs1) := In.of_new (Nat.le_refl _) gi (by omega)
      clear hb gi
      obtain ⟨cc6_00, cc6_01, cc6_02, -, -, -⟩ := P0.out.all
      have ll6_0 := P0.out.lt
      obtain ⟨cc6_10, cc6_11, cc6_12, -, -, -⟩ := KX0.out.all
      have ll6_1 := KX0.out.lt
      go_wp2_with fail
      refine (iSl a0_0 a0_1 (some ⟨gx0, 0, none⟩) xs0.length xs0 (some ⟨gy1, 0, none⟩) xs1.length xs1 _ X0.out.rd.2.1 ⟨Spot.of _ _, Nat.le_refl _, fun h => by cases h⟩ (by omega) Y1.out.rd.2.1 (by omega) (TB.out.below B.out)).mono ?_
      rintro e w8 ⟨vG, rfl, own, hb⟩
      rw [RLH.out] at own
      rw [OKH.out]
      obtain ⟨qG, qcG, rfl⟩ := own.form
      have P0 := Lib.hid (P0.out.step hb)
      have O0 := Lib.hid (O0.out.keep hb)
      have X0 := Lib.hid (X0.out.keep hb)
      have KX0 := Lib.hid (KX0.out.step hb)
      have Y1 := Lib.hid (Y1.out.keep hb)
      have B := Lib.hid (stepB B.out hb)
      have G0 : Hid (InQ w7.heap.size w8.heap.size w8 (.slice qG rl.length qcG) rl) := by have := own.inn lrl; (try simp at this); exact this
      have sw8 : w7.heap.size ≤ w8.heap.size := by have := hb.size; simpa using this
      have szG : rl.length ≤ 1048576 := lrl
      clear hb own
      obtain ⟨cc7_00, cc7_01, cc7_02, -, -, -⟩ := P0.out.all
      have ll7_0 := P0.out.lt
      obtain ⟨cc7_10, cc7_11, cc7_12, -, -, -⟩ := KX0.out.all
      have ll7_1 := KX0.out.lt
      go_wp2_with fail
      refine (eqQS qG qO qcG qcO rl _ G0.out.rd.2.1 O0.out.rd.2.1 (by omega)).mono ?_
      rintro e w9 ⟨rfl, hb⟩
      have P0 := Lib.hid (P0.out.step hb)
      have O0 := Lib.hid (O0.out.keep hb)
      have X0 := Lib.hid (X0.out.keep hb)
      have KX0 := Lib.hid (KX0.out.step hb)
      have Y1 := Lib.hid (Y1.out.keep hb)
      have G0 := Lib.hid (G0.out.keep hb)
      have B := Lib.hid (stepB B.out hb)
      clear hb
      obtain ⟨cc8_00, cc8_01, cc8_02, -, -, -⟩ := P0.out.all
      have ll8_0 := P0.out.lt
      obtain ⟨cc8_10, cc8_11, cc8_12, -, -, -⟩ := KX0.out.all
      have ll8_1 := KX0.out.lt
      go_wp2_with fail
      refine wp_region_held_drew (S := fun w' => Below w9.heap.size w9 w') (by kernel_rfl) (Below.refl _ _).drew (fun hH => ?_)
      refine wpAnyH_take (i := 0) (v := ?_) (by simp only [List.getElem?_toArray, List.getElem?_cons_zero]; rfl) (by kernel_rfl) (by kernel_rfl) (by kernel_rfl) (by exact fun _ _ _ h => h) (Or.inl ⟨by rfl, ?_⟩) hH ?_
      rotate_left
      · (intro wS hS; (try dsimp only at hS); obtain ⟨k1, k2, k3, k4, k5, k6⟩ := six KX0.out P0.out hS; go_simp; try rfl)
      try simp only [Act.put, List.setIfInBounds_toArray, List.set_cons_zero, List.set_cons_succ]
      refine wpAnyH_take (i := 1) (v := ?_) (by simp only [List.getElem?_toArray, List.getElem?_cons_succ, List.getElem?_cons_zero]; rfl) (by kernel_rfl) (by kernel_rfl) (by kernel_rfl) (by exact fun _ _ _ h => h) (Or.inl ⟨by rfl, ?_⟩) hH ?_
      rotate_left
      · (intro wS hS; (try dsimp only at hS); obtain ⟨k1, k2, k3, k4, k5, k6⟩ := six KX0.out P0.out hS; go_simp; try rfl)
      try simp only [Act.put, List.setIfInBounds_toArray, List.set_cons_zero, List.set_cons_succ]
      refine wpAnyH_ready (rs := [2]) (by kernel_rfl) (by simp) ?_
      refine AllReadyH.cons (by simp only [List.getElem?_toArray, List.getElem?_cons_succ, List.getElem?_cons_zero]; rfl) (fun K hK => ?_) AllReadyH.nil
      go_simp
      (with_reducible refine (toM a0_0 a0_1 a0_2 cap0_2 xs0 _ (HX0.out.below (stepB B.out hH)) (by omega)).mono ?_)
      rintro e v30 ⟨g30, rfl, gg30, gi30, hb30⟩
      have I30 := Lib.hid gi30
      clear gi30 gg30
      try dsimp only
      refine hK.out _ _ ?_ (fun hH2 => ?_)
      · exact hH.trans (hb30.mono hH.size)
      clear hK K hH
      have hH := hH2
      clear hH2
      try simp only [Act.put, List.setIfInBounds_toArray, List.set_cons_zero, List.set_cons_succ]
      refine wpAnyH_ready (rs := [3]) (by kernel_rfl) (by simp) ?_
      refine AllReadyH.cons (by simp only [List.getElem?_toArray, List.getElem?_cons_succ, List.getElem?_cons_zero]; rfl) (fun K hK => ?_) AllReadyH.nil
      go_simp
      (with_reducible refine (eqM_t a0_0 a0_1 (some ⟨gx0, 0, none⟩) (some ⟨g30, 0, none⟩) xs0.length xs0.length xs0 _ (X0.out.keep hH).rd.2.1 I30.out.rd (by omega)).mono ?_)
      rintro e v31 ⟨rfl, hb31⟩
      try dsimp only
      refine hK.out _ _ ?_ (fun hH2 => ?_)
      · exact hH.trans (hb31.mono hH.size)
      clear hK K hH
      have hH := hH2
      clear hH2
      try simp only [Act.put, List.setIfInBounds_toArray, List.set_cons_zero, List.set_cons_succ]
      refine wpAnyH_take (i := 4) (v := ?_) (by simp only [List.getElem?_toArray, List.getElem?_cons_succ, List.getElem?_cons_zero]; rfl) (by kernel_rfl) (by kernel_rfl) (by kernel_rfl) (by exact fun _ _ _ h => h) (Or.inl ⟨by rfl, ?_⟩) hH ?_
      rotate_left
      · (intro wS hS; clear hS; go_simp; try rfl)
      try simp only [Act.put, List.setIfInBounds_toArray, List.set_cons_zero, List.set_cons_succ]
      refine wpAnyH_done (by kernel_rfl) ?_ _
      have hb := hH
      clear hH hb30 hb31
      have P0 := Lib.hid (P0.out.step hb)
      have O0 := Lib.hid (O0.out.keep hb)
      have X0 := Lib.hid (X0.out.keep hb)
      have KX0 := Lib.hid (KX0.out.step hb)
      have Y1 := Lib.hid (Y1.out.keep hb)
      have G0 := Lib.hid (G0.out.keep hb)
      have B := Lib.hid (stepB B.out hb)
      clear hb I30
      obtain ⟨cc9_00, cc9_01, cc9_02, -, -, -⟩ := P0.out.all
      have ll9_0 := P0.out.lt
      obtain ⟨cc9_10, cc9_11, cc9_12, -, -, -⟩ := KX0.out.all
      have ll9_1 := KX0.out.lt
      go_wp2_with fail
      refine (toI a1 cap1 xs1 _ (HX1.out.below B.out) (by omega)).mono ?_
      rintro e w10 ⟨rfl, gi, hb⟩
      have P0 := Lib.hid (P0.out.step hb)
      have O0 := Lib.hid (O0.out.keep hb)
      have X0 := Lib.hid (X0.out.keep hb)
      have KX0 := Lib.hid (KX0.out.step hb)
      have Y1 := Lib.hid (Y1.out.keep hb)
      have G0 := Lib.hid (G0.out.keep hb)
      have B := Lib.hid (stepB B.out hb)
      have IY := Lib.hid gi
      clear gi hb
      obtain ⟨cc10_00, cc10_01, cc10_02, -, -, -⟩ := P0.out.all
      have ll10_0 := P0.out.lt
      obtain ⟨cc10_10, cc10_11, cc10_12, -, -, -⟩ := KX0.out.all
      have ll10_1 := KX0.out.lt
      go_wp2_with fail
      refine (eqI_g (some ⟨gy1, 0, none⟩) (some ⟨v31.heap.size, 0, none⟩) xs1.length xs1.length xs1 _ Y1.out.rd.2.1 IY.out.rd (by omega)).mono ?_
      rintro e w11 ⟨rfl, hb⟩
      have P0 := Lib.hid (P0.out.step hb)
      have O0 := Lib.hid (O0.out.keep hb)
      have X0 := Lib.hid (X0.out.keep hb)
      have KX0 := Lib.hid (KX0.out.step hb)
      have Y1 := Lib.hid (Y1.out.keep hb)
      have G0 := Lib.hid (G0.out.keep hb)
      have IY := Lib.hid (IY.out.keep hb IY.out.lt)
      have B := Lib.hid (stepB B.out hb)
      clear hb IY
      obtain ⟨cc11_00, cc11_01, cc11_02, -, -, -⟩ := P0.out.all
      have ll11_0 := P0.out.lt
      obtain ⟨cc11_10, cc11_11, cc11_12, -, -, -⟩ := KX0.out.all
      have ll11_1 := KX0.out.lt
      go_wp2_with fail
      refine (markIn a0_0 a0_1 (some ⟨gx0, 0, none⟩) xs0.length xs0.length xs0 (1) _ X0.out (by omega) (by omega)).mono ?_
      rintro e w12 ⟨rfl, inn, hc⟩
      have P0 := Lib.hid (P0.out.chg hc (by omega))
      have O0 := Lib.hid (O0.out.chg hc (by omega))
      have KX0 := Lib.hid (KX0.out.chg hc (by omega))
      have Y1 := Lib.hid (Y1.out.chg hc (by omega))
      have G0 := Lib.hid (G0.out.chg hc (by omega))
      have B := Lib.hid (Below.chg B.out hc (by omega) B.out.size)
      have X0 := Lib.hid inn
      clear hc inn
      obtain ⟨cc12_00, cc12_01, cc12_02, -, -, -⟩ := P0.out.all
      have ll12_0 := P0.out.lt
      obtain ⟨cc12_10, cc12_11, cc12_12, -, -, -⟩ := KX0.out.all
      have ll12_1 := KX0.out.lt
      go_wp2_with fail
      refine (markInI (some ⟨gy1, 0, none⟩) xs1.length xs1.length xs1 (1 + xs0.length) _ Y1.out (by omega) (by omega)).mono ?_
      rintro e w13 ⟨rfl, inn, hc⟩
      have P0 := Lib.hid (P0.out.chg hc (by omega))
      have O0 := Lib.hid (O0.out.chg hc (by omega))
      have KX0 := Lib.hid (KX0.out.chg hc (by omega))
      have G0 := Lib.hid (G0.out.chg hc (by omega))
      have X0 := Lib.hid (X0.out.chg hc (by omega))
      have B := Lib.hid (Below.chg B.out hc (by omega) B.out.size)
      have Y1 := Lib.hid inn
      clear hc inn
      obtain ⟨cc13_00, cc13_01, cc13_02, -, -, -⟩ := P0.out.all
      have ll13_0 := P0.out.lt
      obtain ⟨cc13_10, cc13_11, cc13_12, -, -, -⟩ := KX0.out.all
      have ll13_1 := KX0.out.lt
      go_wp2_with fail
      refine (eqQS qG qO qcG qcO rl _ G0.out.rd.2.1 O0.out.rd.2.1 (by omega)).mono ?_
      rintro e w14 ⟨rfl, hb⟩
      have P0 := Lib.hid (P0.out.step hb)
      have O0 := Lib.hid (O0.out.keep hb)
      have KX0 := Lib.hid (KX0.out.step hb)
      have G0 := Lib.hid (G0.out.keep hb)
      have B := Lib.hid (stepB B.out hb)
      clear hb
      obtain ⟨cc14_00, cc14_01, cc14_02, -, -, -⟩ := P0.out.all
      have ll14_0 := P0.out.lt
      obtain ⟨cc14_10, cc14_11, cc14_12, -, -, -⟩ := KX0.out.all
      have ll14_1 := KX0.out.lt
      go_wp2_with fail
      refine (markInQ qG qcG rl 1 _ G0.out (by omega) (by omega)).mono ?_
      rintro e w15 ⟨rfl, inn, hc⟩
      have P0 := Lib.hid (P0.out.chg hc (by omega))
      have O0 := Lib.hid (O0.out.chg hc (by omega))
      have KX0 := Lib.hid (KX0.out.chg hc (by omega))
      have B := Lib.hid (Below.chg B.out hc (by omega) B.out.size)
      have G0 := Lib.hid inn
      clear hc inn
      obtain ⟨cc15_00, cc15_01, cc15_02, -, -, -⟩ := P0.out.all
      have ll15_0 := P0.out.lt
      obtain ⟨cc15_10, cc15_11, cc15_12, -, -, -⟩ := KX0.out.all
      have ll15_1 := KX0.out.lt
      go_wp2_with fail
      refine (heldQS qG qcG rl.length 1 _ G0.out.rd.2.1 (by omega) (by omega) (by omega)).mono ?_
      rintro e w16 ⟨rfl, hb⟩
      have P0 := Lib.hid (P0.out.step hb)
      have O0 := Lib.hid (O0.out.keep hb)
      have KX0 := Lib.hid (KX0.out.step hb)
      have G0 := Lib.hid (G0.out.keep hb)
      have B := Lib.hid (stepB B.out hb)
      clear hb
      obtain ⟨cc16_00, cc16_01, cc16_02, -, -, -⟩ := P0.out.all
      have ll16_0 := P0.out.lt
      obtain ⟨cc16_10, cc16_11, cc16_12, -, -, -⟩ := KX0.out.all
      have ll16_1 := KX0.out.lt
      go_wp2_with fail
      refine (toM a0_0 a0_1 a0_2 cap0_2 xs0 _ (HX0.out.below B.out) (by omega)).mono ?_
      rintro e w17 ⟨gH0, rfl, gg, gi, hb⟩
      have P0 := Lib.hid (P0.out.step hb)
      have O0 := Lib.hid (O0.out.keep hb)
      have KX0 := Lib.hid (KX0.out.step hb)
      have G0 := Lib.hid (G0.out.keep hb)
      have B := Lib.hid (stepB B.out hb)
      have IH0 := Lib.hid gi
      clear hb gg gi
      obtain ⟨cc17_00, cc17_01, cc17_02, -, -, -⟩ := P0.out.all
      have ll17_0 := P0.out.lt
      obtain ⟨cc17_10, cc17_11, cc17_12, -, -, -⟩ := KX0.out.all
      have ll17_1 := KX0.out.lt
      go_wp2_with fail
      refine (toI a1 cap1 xs1 _ (HX1.out.below B.out) (by omega)).mono ?_
      rintro e w18 ⟨rfl, gi, hb⟩
      have P0 := Lib.hid (P0.out.step hb)
      have O0 := Lib.hid (O0.out.keep hb)
      have KX0 := Lib.hid (KX0.out.step hb)
      have G0 := Lib.hid (G0.out.keep hb)
      have IH0 := Lib.hid (IH0.out.keep hb IH0.out.lt)
      have B := Lib.hid (stepB B.out hb)
      have IY := Lib.hid gi
      clear hb gi
      obtain ⟨cc18_00, cc18_01, cc18_02, -, -, -⟩ := P0.out.all
      have ll18_0 := P0.out.lt
      obtain ⟨cc18_10, cc18_11, cc18_12, -, -, -⟩ := KX0.out.all
      have ll18_1 := KX0.out.lt
      go_wp2_with fail
      refine (iSl a0_0 a0_1 (some ⟨gH0, 0, none⟩) xs0.length xs0 (some ⟨w17.heap.size, 0, none⟩) xs1.length xs1 _ IH0.out.rd ⟨Spot.of _ _, Nat.le_refl _, fun h => by cases h⟩ (by omega) IY.out.rd (by omega) (TB.out.below B.out)).mono ?_
      rintro e w19 ⟨vH, rfl, own, hb⟩
      rw [RLH.out] at own
      rw [OKH.out]
      obtain ⟨qH, qcH, rfl⟩ := own.form
      have P0 := Lib.hid (P0.out.step hb)
      have O0 := Lib.hid (O0.out.keep hb)
      have KX0 := Lib.hid (KX0.out.step hb)
      have G0 := Lib.hid (G0.out.keep hb)
      have B := Lib.hid (stepB B.out hb)
      have H0 : Hid (InQ w18.heap.size w19.heap.size w19 (.slice qH rl.length qcH) rl) := by have := own.inn lrl; (try simp at this); exact this
      have sw19 : w18.heap.size ≤ w19.heap.size := by have := hb.size; simpa using this
      have szH : rl.length ≤ 1048576 := lrl
      clear hb own
      obtain ⟨cc19_00, cc19_01, cc19_02, -, -, -⟩ := P0.out.all
      have ll19_0 := P0.out.lt
      obtain ⟨cc19_10, cc19_11, cc19_12, -, -, -⟩ := KX0.out.all
      have ll19_1 := KX0.out.lt
      go_wp2_with fail
      refine (eqQS qH qO qcH qcO rl _ H0.out.rd.2.1 O0.out.rd.2.1 (by omega)).mono ?_
      rintro e w20 ⟨rfl, hb⟩
      have P0 := Lib.hid (P0.out.step hb)
      have O0 := Lib.hid (O0.out.keep hb)
      have KX0 := Lib.hid (KX0.out.step hb)
      have G0 := Lib.hid (G0.out.keep hb)
      have H0 := Lib.hid (H0.out.keep hb)
      have B := Lib.hid (stepB B.out hb)
      clear hb
      obtain ⟨cc20_00, cc20_01, cc20_02, -, -, -⟩ := P0.out.all
      have ll20_0 := P0.out.lt
      obtain ⟨cc20_10, cc20_11, cc20_12, -, -, -⟩ := KX0.out.all
      have ll20_1 := KX0.out.lt
      go_wp2_with fail
      refine (heldQS qG qcG rl.length 1 _ G0.out.rd.2.1 (by omega) (by omega) (by omega)).mono ?_
      rintro e w21 ⟨rfl, hb⟩
      have P0 := Lib.hid (P0.out.step hb)
      have O0 := Lib.hid (O0.out.keep hb)
      have KX0 := Lib.hid (KX0.out.step hb)
      have G0 := Lib.hid (G0.out.keep hb)
      have H0 := Lib.hid (H0.out.keep hb)
      have B := Lib.hid (stepB B.out hb)
      clear hb
      obtain ⟨cc21_00, cc21_01, cc21_02, -, -, -⟩ := P0.out.all
      have ll21_0 := P0.out.lt
      obtain ⟨cc21_10, cc21_11, cc21_12, -, -, -⟩ := KX0.out.all
      have ll21_1 := KX0.out.lt
      go_wp2_with fail
      go_ret
      exact ⟨rfl, B.out⟩
    · go_enter Tryz.func5, Tryz.ntmps5
      go_wp2_with fail
      refine (szM_f a0_0 a0_1 a0_2 xs0.length cap0_2 (1048576) _ (by omega) (by omega) (by omega)).mono ?_
      rintro e w2 ⟨rfl, hb⟩
      have P0 : Hid (Blk3 w2 w.heap.size 46 (.int .i64 a0_0) (.int .i64 a0_1) (.slice a0_2 xs0.length cap0_2)) := (Blk3.at_ _ _ _ _ rfl).keep hb (by simp)
      have B : Hid (Below w.heap.size w w2) := ((Below.refl _ _).alloc (Nat.le_refl _) _).trans (hb.mono (by simp))
      clear hb
      obtain ⟨cs0_00, cs0_01, cs0_02, -, -, -⟩ := P0.out.all
      go_wp2_with fail
      go_ret
      exact ⟨rfl, B.out⟩
  · have nb : (1048576 : Int) < xs1.length := by omega
    clear by1
    go_enter Tryz.func5, Tryz.ntmps5
    go_wp2_with fail
    go_ret
    exact ⟨rfl, ((Below.refl _ _).alloc (Nat.le_refl _) _)⟩

/-! ### The row's step -/
/-- What the row lists. -/
def tabs : List (String × DataW Unit) := [("errors.errorType", Rows.laid_errors_errorType)]
theorem et_ : Tryz.prog.globalNamed "errors.errorType" = some 0 := by kernel_rfl
theorem rt_ : (Tryz.prog.cutTypes.find? (·.1 == "internal/reflectlite.rtype")).map (·.2) = some 185 := by kernel_rfl
theorem oneRow_ : ((List.range 264).filter fun t => Tryz.prog.rowNamed t [101, 114, 114, 111, 114]) = [93] := by kernel_rfl
theorem size_ : Tryz.prog.types.size = 264 := by kernel_rfl
theorem err_of_laid {W : World} (h0 : laidMetH Tryz.prog tabs W) : TabE W := by
  have h : laidMetH Tryz.prog (tabs.filter fun x => x.1 == "errors.errorType") W := h0.filter _
  have h' : laidMet Tryz.prog [] W ∧ handlesMet Tryz.prog [("errors.errorType", Rows.laid_errors_errorType)] W := h
  obtain ⟨name, u, ty, e1, e2, e3, e4, e5⟩ := h'.2 _ (List.mem_singleton.2 rfl)
  have en : name = [101, 114, 114, 111, 114] := (Option.some.inj e1).symm
  subst en
  obtain rfl := Option.some.inj (rt_.symm.trans e2)
  have hm : ty ∈ (List.range 264).filter fun t => Tryz.prog.rowNamed t [101, 114, 114, 111, 114] := List.mem_filter.2 ⟨List.mem_range.2 (by rw [← size_]; exact e3), e4⟩
  rw [oneRow_] at hm
  obtain rfl := List.mem_singleton.1 hm
  have hh : typeHandle Tryz.prog 93 = .pointer (some ⟨7, 93, none⟩) := by kernel_rfl
  rw [hh] at e5
  have := World.var?_cell et_ e5 0
  unfold TabE
  simpa using this
/-- A world that meets the condition. -/
noncomputable def laidWorld (os : Os) : World :=
  let w0 := World.laidAll Tryz.prog os (tabs.filter fun x => x.2.handleName?.isNone)
  { w0 with heap := w0.heap.modify 0 fun
      | .cells _ t frozen => .cells #[.iface 185 (.agg #[.pointer (some ⟨7, 93, none⟩)])] t frozen
      | o => o }
theorem tab_of_laid {W : World} (h : laidMetH Tryz.prog tabs W) : TabE W := err_of_laid h
set_option maxRecDepth 100000 in
theorem lifted (os : Os) (started : os.Started) (H : Type) (enc : TypeId × Value → H) :
    ReturnsInHanded {} Tryz.checked os 5 .any (fun w args => (Rows.fnExactSolveByLiftingSpec.pre enc Tryz.prog Tryz.f5 [] false w args ∧ laidMetH Tryz.prog tabs w) ∧ sizedMet enc Tryz.prog Tryz.f5 (OpenSpec.ofChange Rows.fnExactSolveByLiftingSpec) false w args)
      (Rows.fnExactSolveByLiftingSpec.post enc Tryz.prog Tryz.f5 false true false false) := by
  refine returnsInHanded_of_change_and (C := Tryz.checked) (X := fun w _ => laidMetH Tryz.prog tabs w) (fun _ _ _ hh h => h.of_heap hh) own started (by kernel_rfl) Tryz.func5
    (ChangeSpec.witness_at (enc := enc) (C := Tryz.checked) (os := os) (X := fun w _ => laidMetH Tryz.prog tabs w) false (laidWorld os) #[.agg #[.int .i64 0, .int .i64 0, .slice none 0 0], .slice none 0 0] 8 rfl (by kernel_rfl) (by kernel_rfl) (by kernel_rfl) (by kernel_rfl) (by kernel_rfl)
      (laidMetH_of_parts (laidMet_nil _ _) (by kernel_rfl))) ?_
  intro W base args ds gs before hval0 hW _ _ hL _
  have tb := tab_of_laid hL
  have hval : ∀ (j : Nat) t v, Tryz.f5.params[j]? = some t → args[j]? = some v → Value.okWide Tryz.prog W .any base t v := hval0
  have hW' := hW
  obtain ⟨p, q, hA0, hV, rfl, hfz, hnd⟩ := hW
  have hA : DataW.TrodAll enc Tryz.prog W 0 (fun _ => true) true Tryz.f5.params.toList args.toList ds p := hA0
  rw [Tryz.params5] at hA hval
  obtain ⟨v0, vs0, d0, ds0, p0, q0, hargs, rfl, rfl, h0, r0⟩ := trodAll_cons hA
  obtain ⟨v1, vs1, d1, ds1, p1, q1, rfl, rfl, rfl, h1, r1⟩ := trodAll_cons r0
  obtain ⟨rfl, rfl, rfl⟩ := trodAll_nil r1
  obtain rfl : args = #[v0, v1] := by cases args; simp_all
  obtain ⟨rfl, rfl⟩ := trodVars_none hV
  have k0 := h0
  have lt0 : ∀ x ∈ p0, x.block < W.heap.size := by obtain ⟨m, hm⟩ := k0; exact DataW.trod_lt m _ _ _ hm
  obtain ⟨c0_0, c0_1, c0_2, y0_0, y0_1, y0_2, m0, rfl, rfl, rfl, hy0_0, hy0_1, hy0_2⟩ := Joins.open_agg3 Tryz.underlying46 (by kernel_rfl) cells46 (hval 0 46 v0 rfl rfl) h0
  obtain ⟨a0_0, e0_0, rfl, w0_0⟩ := DataW.trod_int Tryz.underlying3 hy0_0
  simp only [List.cons.injEq, and_true] at e0_0
  subst e0_0
  obtain ⟨a0_1, e0_1, rfl, w0_1⟩ := DataW.trod_int Tryz.underlying3 hy0_1
  simp only [List.cons.injEq, and_true] at e0_1
  subst e0_1
  obtain ⟨a0_2, len0_2, cap0_2, e0_2⟩ := Joins.slice_form Tryz.underlying24 hy0_2
  simp only [List.cons.injEq, and_true] at e0_2
  subst e0_2
  obtain ⟨z0_2, w0_2⟩ : ∃ zs, IsRow .i64 W a0_2 len0_2 cap0_2 zs := isRow_of Tryz.underlying24 Tryz.underlying3 (by kernel_rfl) hy0_2
  have k1 := h1
  have lt1 : ∀ x ∈ p1, x.block < W.heap.size := by obtain ⟨m, hm⟩ := k1; exact DataW.trod_lt m _ _ _ hm
  obtain ⟨a1, len1, cap1, rfl⟩ := okWide_slice Tryz.underlying24 (hval 1 24 v1 rfl rfl)
  obtain ⟨fuel1, hf1⟩ := h1
  obtain ⟨z1, w1⟩ : ∃ zs, IsRow .i64 W a1 len1 cap1 zs := isRow_of Tryz.underlying24 Tryz.underlying3 (by kernel_rfl) (by simpa [Value.cells] using hf1)
  clear hA0 hval0
  refine (walk a0_0 a0_1 a0_2 len0_2 cap0_2 z0_2 a1 len1 cap1 z1 W w0_0 w0_1 w0_2 w1 tb).mono fun e W' ⟨he, bel⟩ => ?_
  subst he
  exact ⟨_, rfl, _, _, _, [], _, [], hW', trodAll_mk1 (shut_bool Tryz.underlying4 _), (trodAll_cons_mk (Below.trod laidOut (by kernel_rfl) (of_decide_eq_true (by kernel_rfl)) k0 bel lt0) (trodAll_cons_mk (Below.trod laidOut (by kernel_rfl) (of_decide_eq_true (by kernel_rfl)) k1 bel lt1) trodAll_mk0)), rfl, bel.frame _, fun h => by cases h⟩

theorem over : Rows.fnExactSolveByLiftingRow.holds Tryz.pinned (OpenSpec.ofChange Rows.fnExactSolveByLiftingSpec) :=
  OpenClaim.holds_of_wide 5 Tryz.f5 rfl rfl rfl rfl rfl rfl rfl ⟨rfl, rfl, rfl, rfl, rfl⟩ rfl rfl rfl rfl rfl (by kernel_rfl) Tryz.func5 (by kernel_rfl)
    (of_decide_eq_true (by kernel_rfl)) (by unfold Func.isWrapper; first | (rw [if_pos (by decide +kernel)]; kernel_rfl) | (rw [if_neg (by decide +kernel)]; exact ⟨rfl, rfl⟩))
    (fun os started H enc _ => lifted os started H enc)

/-- THE TIED CARD. -/
theorem proved : Rows.FnExactSolveByLiftingCardSaid :=
  Claim7.holds_tied_plain_at .later [] [.handle] true (true, "4ab34b3a0f4cd37d6b23f16d655ff7b8bbf254f31dd6992a61f615a2b1f18fb7") true
    over (fun _ h => by cases h) (by kernel_rfl) (fun _ h => by cases h) fnExactSolveByLifting_row_tie rfl ⟨rfl, rfl⟩ (by kernel_rfl) rfl
    (fun f fn hf hfn => by
      obtain rfl : f = 5 := Option.some.inj ((show Tryz.prog.funcNamed "loop.example/g03411/laws.FnExactSolveByLifting" = some 5 by kernel_rfl).symm.trans hf) |>.symm
      obtain rfl : fn = Tryz.f5 := (Option.some.inj (Tryz.func5.symm.trans hfn)).symm
      exact ⟨by kernel_rfl, fun j t ht => by
        rw [Tryz.params5] at ht
        have hm : t ∈ [46, 24] := by simpa using Array.mem_of_getElem? ht
        have hall : ([46, 24].all fun u => !Tryz.prog.wantsStandIn u) = true := by kernel_rfl
        exact (show Tryz.prog.wantsStandIn t = false by simpa using List.all_eq_true.1 hall t hm)⟩)
    (by kernel_rfl)
#print axioms proved
end Go.Proofs.YtcapddcmnjeloaaGreatDoor.fnExactSolveByLifting
