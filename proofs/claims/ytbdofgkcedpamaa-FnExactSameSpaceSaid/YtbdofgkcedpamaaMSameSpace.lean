/-
  Proved: for every two matrices, the law FnExactSameSpace returns true: the program's SameSpace answers as the model's and writes into no argument.
  Conditions: none beyond the row's own (the arguments read as data).
-/
import Derived.Test.YtbdofgkcedpamaaRows
import Derived.ChangeOld
import Derived.Below
import Derived.Deep.RegionHeld3
import Derived.Deep.DeepCutAuto
import Derived.WalkKit
import Derived.ProofKit
import Derived.OpenShut
import Derived.ShutString
import Derived.Carry
import Derived.Lib.SmallJoins
import Derived.Test.YtbdofgkcedpamaaPk1
import Derived.Test.YtbdofgkcedpamaaPk5
import Derived.Test.YtbdofgkcedpamaaPk7

namespace Go.Proofs.Ytbdofgkcedpamaa.fnExactSameSpace
open Go.ChangeShapes Go.WideShapes Go.ChangeAt Go.RowKit
open Go.ChangeMaps (open_string shut_string)
set_option linter.unusedVariables false

theorem own : ownKnob Try.prog.godebug = none := by kernel_rfl
theorem laidOut : laidOutB Try.prog = true := by kernel_rfl
theorem cells24 : Try.prog.cellsOf 24 = 3 := by kernel_rfl
/-- What the walk is told of a slice of integers that came in: it is nil; or it leads to a row of 'cap' cells, the numbers 'zs' (the first 'len' are its elements), each fitting its kind. -/
def IsRow (k : IntKind) (w : World) (a : Option Addr) (len cap : Nat) (zs : List Int) : Prop :=
  (a = none ∧ len = 0 ∧ cap = 0 ∧ zs = []) ∨
  ∃ x, a = some x ∧ len ≤ cap ∧ cap ≤ maxLen ∧ zs.length = cap ∧ (∀ i, i < zs.length → w.cell? (x.add i) = some (.int k (zs.getD i 0))) ∧ ∀ n ∈ zs, (Lit.int k n).wf = true
theorem isRow_of {H : Type} {enc : TypeId × Value → H} {P : Program} {W : World} {base : Nat} {held : Bool} {t e : TypeId} {k : IntKind} {a : Option Addr} {len cap fuel : Nat} {x : DataW H × List MemPlace}
    (ht : P.underlying t = some (.slice e)) (he : P.underlying e = some (.int k)) (hc : P.cellsOf e = 1) (hf : DataW.trod enc P W base (fun _ => true) held fuel t [.slice a len cap] = some x) : ∃ zs, IsRow k W a len cap zs := by
  rcases open_ints ht he hc hf with ⟨hcs, _⟩ | ⟨x, l, c, zs, hcs, _, hl, hm, hz, _, hcell, hwz⟩
  · simp at hcs
    obtain ⟨rfl, rfl, rfl⟩ := hcs
    exact ⟨[], .inl ⟨rfl, rfl, rfl, rfl⟩⟩
  · simp at hcs
    obtain ⟨rfl, rfl, rfl⟩ := hcs
    exact ⟨zs, .inr ⟨_, rfl, hl, hm, by simpa using hz, hcell, hwz⟩⟩
theorem codeRd {w : World} {a : Option Addr} {len cap : Nat} {zs : List Int} (h : IsRow .i64 w a len cap zs) : ∃ xs : List Int, Rd w a xs ∧ len = xs.length ∧ len ≤ 9223372036854775807 := by
  rcases h with ⟨rfl, rfl, rfl, rfl⟩ | ⟨x, rfl, hl, hm, hz, hcell, hwf⟩
  · exact ⟨[], Rd.nil _ _, rfl, by omega⟩
  · refine ⟨zs.take len, fun i hi => ?_, by simp; omega, by unfold maxLen at hm; omega⟩
    simp only [List.length_take] at hi
    obtain ⟨b, o, rfl, hc⟩ := ints_at hcell (by omega)
    refine ⟨b, o, rfl, ?_⟩
    rw [hc i (by omega)]
    simp [List.getD, show i < len by omega]
set_option maxRecDepth 100000 in
set_option maxHeartbeats 8000000 in

theorem walk (a0_0 : Int) (a0_1 : Int) (a0_2 : Option Addr) (len0_2 cap0_2 : Nat) (z0_2 : List Int) (a1_0 : Int) (a1_1 : Int) (a1_2 : Option Addr) (len1_2 cap1_2 : Nat) (z1_2 : List Int) (w : World) (w0_0 : (Lit.int .i64 a0_0).wf = true) (w0_1 : (Lit.int .i64 a0_1).wf = true) (w0_2 : IsRow .i64 w a0_2 len0_2 cap0_2 z0_2) (w1_0 : (Lit.int .i64 a1_0).wf = true) (w1_1 : (Lit.int .i64 a1_1).wf = true) (w1_2 : IsRow .i64 w a1_2 len1_2 cap1_2 z1_2) :
    Calls Try.prog 6 #[.agg #[.int .i64 a0_0, .int .i64 a0_1, .slice a0_2 len0_2 cap0_2], .agg #[.int .i64 a1_0, .int .i64 a1_1, .slice a1_2 len1_2 cap1_2]] w fun e w' => e = .returned (.bool true) ∧ Below w.heap.size w w' := by
  obtain ⟨xs0, hx, rfl, lx0⟩ := codeRd w0_2
  have HX0 := Lib.hid hx
  clear hx w0_2 w0_0 w0_1
  obtain ⟨xs1, hx, rfl, lx1⟩ := codeRd w1_2
  have HX1 := Lib.hid hx
  clear hx w1_2 w1_0 w1_1
  by_cases bx0 : xs0.length ≤ 1048576
  · by_cases bx1 : xs0.length + xs1.length ≤ 1048576
    · go_enter Try.func6, Try.ntmps6
      go_wp2_with fail
      refine (szM a0_0 a0_1 a0_2 xs0.length cap0_2 (1048576) _ (by omega) (by omega)).mono ?_
      rintro e w2 ⟨rfl, hb⟩
      have P0 : Hid (Blk3 w2 w.heap.size 24 (.int .i64 a0_0) (.int .i64 a0_1) (.slice a0_2 xs0.length cap0_2)) := ((Blk3.at_ _ _ _ _ rfl).old _).keep hb (by simp <;> omega)
      have P1 : Hid (Blk3 w2 (w.heap.size + 1) 24 (.int .i64 a1_0) (.int .i64 a1_1) (.slice a1_2 xs1.length cap1_2)) := (Blk3.at_ _ _ _ _ (by simp)).keep hb (by simp <;> omega)
      have B : Hid (Below w.heap.size w w2) := (((Below.refl _ _).alloc (Nat.le_refl _) _).alloc (by simp) _).trans (hb.mono (by simp <;> omega))
      clear hb
      obtain ⟨cc1_00, cc1_01, cc1_02, -, -, -⟩ := P0.out.all
      have ll1_0 := P0.out.lt
      obtain ⟨cc1_10, cc1_11, cc1_12, -, -, -⟩ := P1.out.all
      have ll1_1 := P1.out.lt
      go_wp2_with fail
      refine (szM a1_0 a1_1 a1_2 xs1.length cap1_2 (1048576 - (xs0.length : Int)) _ (by omega) (by omega)).mono ?_
      rintro e w3 ⟨rfl, hb⟩
      have P0 := Lib.hid (P0.out.step hb)
      have P1 := Lib.hid (P1.out.step hb)
      have B := Lib.hid (stepB B.out hb)
      clear hb
      obtain ⟨cc2_00, cc2_01, cc2_02, -, -, -⟩ := P0.out.all
      have ll2_0 := P0.out.lt
      obtain ⟨cc2_10, cc2_11, cc2_12, -, -, -⟩ := P1.out.all
      have ll2_1 := P1.out.lt
      go_wp2_with fail
      obtain ⟨pv, hpv⟩ : ∃ pv, (spOf a0_0 a0_1 xs0 a1_0 a1_1 xs1).1 = pv := ⟨_, rfl⟩
      have PVH := Lib.hid hpv
      clear hpv
      obtain ⟨pw, hpw⟩ : ∃ pw, (spOf a0_0 a0_1 xs0 a1_0 a1_1 xs1).2 = pw := ⟨_, rfl⟩
      have PWH := Lib.hid hpw
      clear hpw
      have XP : Hid (Blk3 w3 w.heap.size 24 (.int .i64 a0_0) (.int .i64 a0_1) (.slice a0_2 xs0.length cap0_2) ∧ Blk3 w3 (w.heap.size + 1) 24 (.int .i64 a1_0) (.int .i64 a1_1) (.slice a1_2 xs1.length cap1_2) ) := ⟨P0.out, P1.out⟩
      refine wp_region_held_drew (S := fun w' => Below w3.heap.size w3 w') (by kernel_rfl) (Below.refl _ _).drew (fun hH => ?_)
      refine wpAnyH_take (i := 0) (v := ?_) (by simp only [List.getElem?_toArray, List.getElem?_cons_zero]; rfl) (by kernel_rfl) (by kernel_rfl) (by kernel_rfl) (by exact fun _ _ _ h => h) (Or.inl ⟨by rfl, ?_⟩) hH ?_
      rotate_left
      · (intro wS hS; (try dsimp only at hS); obtain ⟨k1, k2, k3, k4, k5, k6⟩ := six XP.out.1 XP.out.2 hS; go_simp; try rfl)
      try simp only [Act.put, List.setIfInBounds_toArray, List.set_cons_zero, List.set_cons_succ]
      refine wpAnyH_take (i := 2) (v := ?_) (by simp only [List.getElem?_toArray, List.getElem?_cons_succ, List.getElem?_cons_zero]; rfl) (by kernel_rfl) (by kernel_rfl) (by kernel_rfl) (by exact fun _ _ _ h => h) (Or.inl ⟨by rfl, ?_⟩) hH ?_
      rotate_left
      · (intro wS hS; (try dsimp only at hS); obtain ⟨k1, k2, k3, k4, k5, k6⟩ := six XP.out.1 XP.out.2 hS; go_simp; try rfl)
      try simp only [Act.put, List.setIfInBounds_toArray, List.set_cons_zero, List.set_cons_succ]
      refine wpAnyH_ready (rs := [1]) (by kernel_rfl) (by simp) ?_
      refine AllReadyH.cons (by simp only [List.getElem?_toArray, List.getElem?_cons_succ, List.getElem?_cons_zero]; rfl) (fun K hK => ?_) AllReadyH.nil
      go_simp
      (with_reducible refine (toM a0_0 a0_1 a0_2 cap0_2 xs0 _ (HX0.out.below (B.out.trans (hH.mono B.out.size))) (by omega)).mono ?_)
      rintro e v30 ⟨g1, rfl, gg1, gi1, hb30⟩
      have I1 := Lib.hid gi1
      clear gi1 gg1
      try dsimp only
      refine hK.out _ _ ?_ (fun hH2 => ?_)
      · exact hH.trans (hb30.mono hH.size)
      clear hK K hH
      have hH := hH2
      clear hH2
      try simp only [Act.put, List.setIfInBounds_toArray, List.set_cons_zero, List.set_cons_succ]
      refine wpAnyH_ready (rs := [3]) (by kernel_rfl) (by simp) ?_
      refine AllReadyH.cons (by simp only [List.getElem?_toArray, List.getElem?_cons_succ, List.getElem?_cons_zero]; rfl) (fun K hK => ?_) AllReadyH.nil
      go_simp
      (with_reducible refine (toM a1_0 a1_1 a1_2 cap1_2 xs1 _ (HX1.out.below (B.out.trans (hH.mono B.out.size))) (by omega)).mono ?_)
      rintro e v31 ⟨g2, rfl, gg2, gi2, hb31⟩
      have I2 := Lib.hid gi2
      have I1 := Lib.hid (I1.out.keep hb31 I1.out.lt)
      clear gi2 gg2
      try dsimp only
      refine hK.out _ _ ?_ (fun hH2 => ?_)
      · exact hH.trans (hb31.mono hH.size)
      clear hK K hH
      have hH := hH2
      clear hH2
      try simp only [Act.put, List.setIfInBounds_toArray, List.set_cons_zero, List.set_cons_succ]
      refine wpAnyH_ready (rs := [4]) (by kernel_rfl) (by simp) ?_
      refine AllReadyH.cons (by simp only [List.getElem?_toArray, List.getElem?_cons_succ, List.getElem?_cons_zero]; rfl) (fun K hK => ?_) AllReadyH.nil
      go_simp
      (with_reducible refine (sSameSpace a0_0 a0_1 (some ⟨g1, 0, none⟩) xs0.length xs0 a1_0 a1_1 (some ⟨g2, 0, none⟩) xs1.length xs1 _ I1.out.rd (by omega) (Spot.of _ _) I2.out.rd (by omega) (Spot.of _ _)).mono ?_)
      rintro e v32 ⟨rfl, hb32⟩
      try dsimp only
      refine hK.out _ _ ?_ (fun hH2 => ?_)
      · exact hH.trans (hb32.mono hH.size)
      clear hK K hH
      have hH := hH2
      clear hH2
      try simp only [Act.put, List.setIfInBounds_toArray, List.set_cons_zero, List.set_cons_succ]
      refine wpAnyH_take (i := 5) (v := ?_) (by simp only [List.getElem?_toArray, List.getElem?_cons_succ, List.getElem?_cons_zero]; rfl) (by kernel_rfl) (by kernel_rfl) (by kernel_rfl) (by exact fun _ _ _ h => h) (Or.inl ⟨by rfl, ?_⟩) hH ?_
      rotate_left
      · (intro wS hS; clear hS; go_simp; try rfl)
      try simp only [Act.put, List.setIfInBounds_toArray, List.set_cons_zero, List.set_cons_succ]
      refine wpAnyH_take (i := 6) (v := ?_) (by simp only [List.getElem?_toArray, List.getElem?_cons_succ, List.getElem?_cons_zero]; rfl) (by kernel_rfl) (by kernel_rfl) (by kernel_rfl) (by exact fun _ _ _ h => h) (Or.inl ⟨by rfl, ?_⟩) hH ?_
      rotate_left
      · (intro wS hS; clear hS; go_simp; try rfl)
      try simp only [Act.put, List.setIfInBounds_toArray, List.set_cons_zero, List.set_cons_succ]
      refine wpAnyH_take (i := 7) (v := ?_) (by simp only [List.getElem?_toArray, List.getElem?_cons_succ, List.getElem?_cons_zero]; rfl) (by kernel_rfl) (by kernel_rfl) (by kernel_rfl) (by exact fun _ _ _ h => h) (Or.inl ⟨by rfl, ?_⟩) hH ?_
      rotate_left
      · (intro wS hS; clear hS; go_simp; try rfl)
      try simp only [Act.put, List.setIfInBounds_toArray, List.set_cons_zero, List.set_cons_succ]
      refine wpAnyH_take (i := 8) (v := ?_) (by simp only [List.getElem?_toArray, List.getElem?_cons_succ, List.getElem?_cons_zero]; rfl) (by kernel_rfl) (by kernel_rfl) (by kernel_rfl) (by exact fun _ _ _ h => h) (Or.inl ⟨by rfl, ?_⟩) hH ?_
      rotate_left
      · (intro wS hS; clear hS; go_simp; try rfl)
      try simp only [Act.put, List.setIfInBounds_toArray, List.set_cons_zero, List.set_cons_succ]
      refine wpAnyH_take (i := 9) (v := ?_) (by simp only [List.getElem?_toArray, List.getElem?_cons_succ, List.getElem?_cons_zero]; rfl) (by kernel_rfl) (by kernel_rfl) (by kernel_rfl) (by exact fun _ _ _ h => h) (Or.inl ⟨by rfl, ?_⟩) hH ?_
      rotate_left
      · (intro wS hS; clear hS; go_simp; try rfl)
      try simp only [Act.put, List.setIfInBounds_toArray, List.set_cons_zero, List.set_cons_succ]
      refine wpAnyH_done (by kernel_rfl) ?_ _
      have hb := hH
      clear hH XP hb30 hb31 hb32
      have P0 := Lib.hid (P0.out.step hb)
      have P1 := Lib.hid (P1.out.step hb)
      have B := Lib.hid (stepB B.out hb)
      clear hb I1 I2
      rw [PVH.out, PWH.out]
      obtain ⟨cc3_00, cc3_01, cc3_02, -, -, -⟩ := P0.out.all
      have ll3_0 := P0.out.lt
      obtain ⟨cc3_10, cc3_11, cc3_12, -, -, -⟩ := P1.out.all
      have ll3_1 := P1.out.lt
      go_wp2_with fail
      refine (toM a0_0 a0_1 a0_2 cap0_2 xs0 _ (HX0.out.below B.out) (by omega)).mono ?_
      rintro e w4 ⟨gx0, rfl, ggx, gix, hb⟩
      have P0 := Lib.hid (P0.out.step hb)
      have P1 := Lib.hid (P1.out.step hb)
      have B := Lib.hid (stepB B.out hb)
      have X0 : Hid (In v32.heap.size w4.heap.size w4 (.slice (some ⟨gx0, 0, none⟩) xs0.length xs0.length) xs0) := In.of_new ggx gix (by omega)
      have sw4 : v32.heap.size ≤ w4.heap.size := by have := hb.size; simpa using this
      have KX0 : Hid (Blk3 (w4.alloc (.cells #[.int .i64 a0_0, .int .i64 a0_1, .slice (some ⟨gx0, 0, none⟩) xs0.length xs0.length] 26)) w4.heap.size 26 (.int .i64 a0_0) (.int .i64 a0_1) (.slice (some ⟨gx0, 0, none⟩) xs0.length xs0.length)) := Blk3.at_ _ _ _ _ rfl
      clear hb ggx gix
      obtain ⟨cc4_00, cc4_01, cc4_02, -, -, -⟩ := P0.out.all
      have ll4_0 := P0.out.lt
      obtain ⟨cc4_10, cc4_11, cc4_12, -, -, -⟩ := P1.out.all
      have ll4_1 := P1.out.lt
      go_wp2_with fail
      refine (toM a1_0 a1_1 a1_2 cap1_2 xs1 _ (HX1.out.below (B.out.alloc B.out.size _)) (by omega)).mono ?_
      rintro e w5 ⟨gx1, rfl, ggx, gix, hb⟩
      have KX0 := Lib.hid (KX0.out.step hb)
      have P0 := Lib.hid ((P0.out.old _).step hb)
      have P1 := Lib.hid ((P1.out.old _).step hb)
      have X0 := Lib.hid ((X0.out.old _).keep hb)
      have B := Lib.hid (stepB (B.out.alloc B.out.size _) hb)
      have X1 : Hid (In (w4.heap.size + 1) w5.heap.size w5 (.slice (some ⟨gx1, 0, none⟩) xs1.length xs1.length) xs1) := In.of_new (by simpa using ggx) gix (by omega)
      have sw5 : (w4.heap.size + 1) ≤ w5.heap.size := by have := hb.size; simpa using this
      have KX1 : Hid (Blk3 (w5.alloc (.cells #[.int .i64 a1_0, .int .i64 a1_1, .slice (some ⟨gx1, 0, none⟩) xs1.length xs1.length] 26)) w5.heap.size 26 (.int .i64 a1_0) (.int .i64 a1_1) (.slice (some ⟨gx1, 0, none⟩) xs1.length xs1.length)) := Blk3.at_ _ _ _ _ rfl
      clear hb ggx gix
      obtain ⟨cc5_00, cc5_01, cc5_02, -, -, -⟩ := P0.out.all
      have ll5_0 := P0.out.lt
      obtain ⟨cc5_10, cc5_11, cc5_12, -, -, -⟩ := P1.out.all
      have ll5_1 := P1.out.lt
      obtain ⟨cc5_20, cc5_21, cc5_22, -, -, -⟩ := KX0.out.all
      have ll5_2 := KX0.out.lt
      go_wp2_with fail
      refine (iSameSpace a0_0 a0_1 (some ⟨gx0, 0, none⟩) xs0.length xs0 a1_0 a1_1 (some ⟨gx1, 0, none⟩) xs1.length xs1 _ (X0.out.old _).rd.2.1 (by omega) (X1.out.old _).rd.2.1 (by omega)).mono ?_
      rintro e w6 ⟨rfl, hb⟩
      have KX1 := Lib.hid (KX1.out.step hb)
      have P0 := Lib.hid ((P0.out.old _).step hb)
      have P1 := Lib.hid ((P1.out.old _).step hb)
      have X0 := Lib.hid ((X0.out.old _).keep hb)
      have KX0 := Lib.hid ((KX0.out.old _).step hb)
      have X1 := Lib.hid ((X1.out.old _).keep hb)
      have B := Lib.hid (stepB (B.out.alloc B.out.size _) hb)
      clear hb
      rw [PVH.out, PWH.out]
      obtain ⟨cc6_00, cc6_01, cc6_02, -, -, -⟩ := P0.out.all
      have ll6_0 := P0.out.lt
      obtain ⟨cc6_10, cc6_11, cc6_12, -, -, -⟩ := P1.out.all
      have ll6_1 := P1.out.lt
      obtain ⟨cc6_20, cc6_21, cc6_22, -, -, -⟩ := KX0.out.all
      have ll6_2 := KX0.out.lt
      obtain ⟨cc6_30, cc6_31, cc6_32, -, -, -⟩ := KX1.out.all
      have ll6_3 := KX1.out.lt
      go_wp2_with fail
      refine wp_region_held_drew (S := fun w' => Below w6.heap.size w6 w') (by kernel_rfl) (Below.refl _ _).drew (fun hH => ?_)
      refine wpAnyH_take (i := 0) (v := ?_) (by simp only [List.getElem?_toArray, List.getElem?_cons_zero]; rfl) (by kernel_rfl) (by kernel_rfl) (by kernel_rfl) (by exact fun _ _ _ h => h) (Or.inl ⟨by rfl, ?_⟩) hH ?_
      rotate_left
      · (intro wS hS; (try dsimp only at hS); obtain ⟨k1, k2, k3, k4, k5, k6⟩ := six KX0.out P0.out hS; go_simp; try rfl)
      try simp only [Act.put, List.setIfInBounds_toArray, List.set_cons_zero, List.set_cons_succ]
      refine wpAnyH_take (i := 1) (v := ?_) (by simp only [List.getElem?_toArray, List.getElem?_cons_succ, List.getElem?_cons_zero]; rfl) (by kernel_rfl) (by kernel_rfl) (by kernel_rfl) (by exact fun _ _ _ h => h) (Or.inl ⟨by rfl, ?_⟩) hH ?_
      rotate_left
      · (intro wS hS; (try dsimp only at hS); obtain ⟨k1, k2, k3, k4, k5, k6⟩ := six KX0.out P0.out hS; go_simp; try rfl)
      try simp only [Act.put, List.setIfInBounds_toArray, List.set_cons_zero, List.set_cons_succ]
      refine wpAnyH_ready (rs := [2]) (by kernel_rfl) (by simp) ?_
      refine AllReadyH.cons (by simp only [List.getElem?_toArray, List.getElem?_cons_succ, List.getElem?_cons_zero]; rfl) (fun K hK => ?_) AllReadyH.nil
      go_simp
      (with_reducible refine (toM a0_0 a0_1 a0_2 cap0_2 xs0 _ (HX0.out.below (stepB B.out hH)) (by omega)).mono ?_)
      rintro e v40 ⟨g40, rfl, gg40, gi40, hb40⟩
      have I40 := Lib.hid gi40
      clear gi40 gg40
      try dsimp only
      refine hK.out _ _ ?_ (fun hH2 => ?_)
      · exact hH.trans (hb40.mono hH.size)
      clear hK K hH
      have hH := hH2
      clear hH2
      try simp only [Act.put, List.setIfInBounds_toArray, List.set_cons_zero, List.set_cons_succ]
      refine wpAnyH_ready (rs := [3]) (by kernel_rfl) (by simp) ?_
      refine AllReadyH.cons (by simp only [List.getElem?_toArray, List.getElem?_cons_succ, List.getElem?_cons_zero]; rfl) (fun K hK => ?_) AllReadyH.nil
      go_simp
      (with_reducible refine (eqM_t a0_0 a0_1 (some ⟨gx0, 0, none⟩) (some ⟨g40, 0, none⟩) xs0.length xs0.length xs0 _ (X0.out.keep hH).rd.2.1 I40.out.rd (by omega)).mono ?_)
      rintro e v41 ⟨rfl, hb41⟩
      try dsimp only
      refine hK.out _ _ ?_ (fun hH2 => ?_)
      · exact hH.trans (hb41.mono hH.size)
      clear hK K hH
      have hH := hH2
      clear hH2
      try simp only [Act.put, List.setIfInBounds_toArray, List.set_cons_zero, List.set_cons_succ]
      refine wpAnyH_take (i := 4) (v := ?_) (by simp only [List.getElem?_toArray, List.getElem?_cons_succ, List.getElem?_cons_zero]; rfl) (by kernel_rfl) (by kernel_rfl) (by kernel_rfl) (by exact fun _ _ _ h => h) (Or.inl ⟨by rfl, ?_⟩) hH ?_
      rotate_left
      · (intro wS hS; clear hS; go_simp; try rfl)
      try simp only [Act.put, List.setIfInBounds_toArray, List.set_cons_zero, List.set_cons_succ]
      refine wpAnyH_done (by kernel_rfl) ?_ _
      have hb := hH
      clear hH hb40 hb41
      have P0 := Lib.hid (P0.out.step hb)
      have P1 := Lib.hid (P1.out.step hb)
      have X0 := Lib.hid (X0.out.keep hb)
      have KX0 := Lib.hid (KX0.out.step hb)
      have X1 := Lib.hid (X1.out.keep hb)
      have KX1 := Lib.hid (KX1.out.step hb)
      have B := Lib.hid (stepB B.out hb)
      clear hb I40
      obtain ⟨cc7_00, cc7_01, cc7_02, -, -, -⟩ := P0.out.all
      have ll7_0 := P0.out.lt
      obtain ⟨cc7_10, cc7_11, cc7_12, -, -, -⟩ := P1.out.all
      have ll7_1 := P1.out.lt
      obtain ⟨cc7_20, cc7_21, cc7_22, -, -, -⟩ := KX0.out.all
      have ll7_2 := KX0.out.lt
      obtain ⟨cc7_30, cc7_31, cc7_32, -, -, -⟩ := KX1.out.all
      have ll7_3 := KX1.out.lt
      go_wp2_with fail
      refine wp_region_held_drew (S := fun w' => Below v41.heap.size v41 w') (by kernel_rfl) (Below.refl _ _).drew (fun hH => ?_)
      refine wpAnyH_take (i := 0) (v := ?_) (by simp only [List.getElem?_toArray, List.getElem?_cons_zero]; rfl) (by kernel_rfl) (by kernel_rfl) (by kernel_rfl) (by exact fun _ _ _ h => h) (Or.inl ⟨by rfl, ?_⟩) hH ?_
      rotate_left
      · (intro wS hS; (try dsimp only at hS); obtain ⟨k1, k2, k3, k4, k5, k6⟩ := six KX1.out P1.out hS; go_simp; try rfl)
      try simp only [Act.put, List.setIfInBounds_toArray, List.set_cons_zero, List.set_cons_succ]
      refine wpAnyH_take (i := 1) (v := ?_) (by simp only [List.getElem?_toArray, List.getElem?_cons_succ, List.getElem?_cons_zero]; rfl) (by kernel_rfl) (by kernel_rfl) (by kernel_rfl) (by exact fun _ _ _ h => h) (Or.inl ⟨by rfl, ?_⟩) hH ?_
      rotate_left
      · (intro wS hS; (try dsimp only at hS); obtain ⟨k1, k2, k3, k4, k5, k6⟩ := six KX1.out P1.out hS; go_simp; try rfl)
      try simp only [Act.put, List.setIfInBounds_toArray, List.set_cons_zero, List.set_cons_succ]
      refine wpAnyH_ready (rs := [2]) (by kernel_rfl) (by simp) ?_
      refine AllReadyH.cons (by simp only [List.getElem?_toArray, List.getElem?_cons_succ, List.getElem?_cons_zero]; rfl) (fun K hK => ?_) AllReadyH.nil
      go_simp
      (with_reducible refine (toM a1_0 a1_1 a1_2 cap1_2 xs1 _ (HX1.out.below (stepB B.out hH)) (by omega)).mono ?_)
      rintro e v50 ⟨g50, rfl, gg50, gi50, hb50⟩
      have I50 := Lib.hid gi50
      clear gi50 gg50
      try dsimp only
      refine hK.out _ _ ?_ (fun hH2 => ?_)
      · exact hH.trans (hb50.mono hH.size)
      clear hK K hH
      have hH := hH2
      clear hH2
      try simp only [Act.put, List.setIfInBounds_toArray, List.set_cons_zero, List.set_cons_succ]
      refine wpAnyH_ready (rs := [3]) (by kernel_rfl) (by simp) ?_
      refine AllReadyH.cons (by simp only [List.getElem?_toArray, List.getElem?_cons_succ, List.getElem?_cons_zero]; rfl) (fun K hK => ?_) AllReadyH.nil
      go_simp
      (with_reducible refine (eqM_t a1_0 a1_1 (some ⟨gx1, 0, none⟩) (some ⟨g50, 0, none⟩) xs1.length xs1.length xs1 _ (X1.out.keep hH).rd.2.1 I50.out.rd (by omega)).mono ?_)
      rintro e v51 ⟨rfl, hb51⟩
      try dsimp only
      refine hK.out _ _ ?_ (fun hH2 => ?_)
      · exact hH.trans (hb51.mono hH.size)
      clear hK K hH
      have hH := hH2
      clear hH2
      try simp only [Act.put, List.setIfInBounds_toArray, List.set_cons_zero, List.set_cons_succ]
      refine wpAnyH_take (i := 4) (v := ?_) (by simp only [List.getElem?_toArray, List.getElem?_cons_succ, List.getElem?_cons_zero]; rfl) (by kernel_rfl) (by kernel_rfl) (by kernel_rfl) (by exact fun _ _ _ h => h) (Or.inl ⟨by rfl, ?_⟩) hH ?_
      rotate_left
      · (intro wS hS; clear hS; go_simp; try rfl)
      try simp only [Act.put, List.setIfInBounds_toArray, List.set_cons_zero, List.set_cons_succ]
      refine wpAnyH_done (by kernel_rfl) ?_ _
      have hb := hH
      clear hH hb50 hb51
      have P0 := Lib.hid (P0.out.step hb)
      have P1 := Lib.hid (P1.out.step hb)
      have X0 := Lib.hid (X0.out.keep hb)
      have KX0 := Lib.hid (KX0.out.step hb)
      have X1 := Lib.hid (X1.out.keep hb)
      have KX1 := Lib.hid (KX1.out.step hb)
      have B := Lib.hid (stepB B.out hb)
      clear hb I50
      obtain ⟨cc8_00, cc8_01, cc8_02, -, -, -⟩ := P0.out.all
      have ll8_0 := P0.out.lt
      obtain ⟨cc8_10, cc8_11, cc8_12, -, -, -⟩ := P1.out.all
      have ll8_1 := P1.out.lt
      obtain ⟨cc8_20, cc8_21, cc8_22, -, -, -⟩ := KX0.out.all
      have ll8_2 := KX0.out.lt
      obtain ⟨cc8_30, cc8_31, cc8_32, -, -, -⟩ := KX1.out.all
      have ll8_3 := KX1.out.lt
      go_wp2_with fail
      go_ret
      exact ⟨rfl, B.out⟩
    · go_enter Try.func6, Try.ntmps6
      go_wp2_with fail
      refine (szM a0_0 a0_1 a0_2 xs0.length cap0_2 (1048576) _ (by omega) (by omega)).mono ?_
      rintro e w2 ⟨rfl, hb⟩
      have P0 : Hid (Blk3 w2 w.heap.size 24 (.int .i64 a0_0) (.int .i64 a0_1) (.slice a0_2 xs0.length cap0_2)) := ((Blk3.at_ _ _ _ _ rfl).old _).keep hb (by simp <;> omega)
      have P1 : Hid (Blk3 w2 (w.heap.size + 1) 24 (.int .i64 a1_0) (.int .i64 a1_1) (.slice a1_2 xs1.length cap1_2)) := (Blk3.at_ _ _ _ _ (by simp)).keep hb (by simp <;> omega)
      have B : Hid (Below w.heap.size w w2) := (((Below.refl _ _).alloc (Nat.le_refl _) _).alloc (by simp) _).trans (hb.mono (by simp <;> omega))
      clear hb
      obtain ⟨cs0_00, cs0_01, cs0_02, -, -, -⟩ := P0.out.all
      obtain ⟨cs0_10, cs0_11, cs0_12, -, -, -⟩ := P1.out.all
      go_wp2_with fail
      refine (szM_f a1_0 a1_1 a1_2 xs1.length cap1_2 (1048576 - (xs0.length : Int)) _ (by omega) (by omega) (by omega)).mono ?_
      rintro e w3 ⟨rfl, hb⟩
      have P0 := Lib.hid (P0.out.keep hb P0.out.lt)
      have P1 := Lib.hid (P1.out.keep hb P1.out.lt)
      have B := Lib.hid (B.out.trans (hb.mono B.out.size))
      clear hb
      obtain ⟨cs1_00, cs1_01, cs1_02, -, -, -⟩ := P0.out.all
      obtain ⟨cs1_10, cs1_11, cs1_12, -, -, -⟩ := P1.out.all
      go_wp2_with fail
      go_ret
      exact ⟨rfl, B.out⟩
  · go_enter Try.func6, Try.ntmps6
    go_wp2_with fail
    refine (szM_f a0_0 a0_1 a0_2 xs0.length cap0_2 (1048576) _ (by omega) (by omega) (by omega)).mono ?_
    rintro e w2 ⟨rfl, hb⟩
    have P0 : Hid (Blk3 w2 w.heap.size 24 (.int .i64 a0_0) (.int .i64 a0_1) (.slice a0_2 xs0.length cap0_2)) := ((Blk3.at_ _ _ _ _ rfl).old _).keep hb (by simp <;> omega)
    have P1 : Hid (Blk3 w2 (w.heap.size + 1) 24 (.int .i64 a1_0) (.int .i64 a1_1) (.slice a1_2 xs1.length cap1_2)) := (Blk3.at_ _ _ _ _ (by simp)).keep hb (by simp <;> omega)
    have B : Hid (Below w.heap.size w w2) := (((Below.refl _ _).alloc (Nat.le_refl _) _).alloc (by simp) _).trans (hb.mono (by simp <;> omega))
    clear hb
    obtain ⟨cs0_00, cs0_01, cs0_02, -, -, -⟩ := P0.out.all
    obtain ⟨cs0_10, cs0_11, cs0_12, -, -, -⟩ := P1.out.all
    go_wp2_with fail
    go_ret
    exact ⟨rfl, B.out⟩

/-! ### The row's step -/
set_option maxRecDepth 100000 in
theorem lifted (os : Os) (started : os.Started) (H : Type) (enc : TypeId × Value → H) :
    ReturnsInHanded {} Try.checked os 6 .any (Rows.fnExactSameSpaceSpec.pre6 enc Try.prog Try.f6 Rows.fnExactSameSpaceRow.domain false) (Rows.fnExactSameSpaceSpec.post enc Try.prog Try.f6 false true false false) := by
  refine returnsInHanded_of_change (C := Try.checked) own started (by kernel_rfl) Try.func6
    (ChangeSpec.witness6 (enc := enc) (C := Try.checked) false ⟨#[], #[.agg #[.int .i64 0, .int .i64 0, .slice none 0 0], .agg #[.int .i64 0, .int .i64 0, .slice none 0 0]], []⟩ 8 (by kernel_rfl) (by kernel_rfl) (by kernel_rfl) (by kernel_rfl)) ?_
  intro W base args ds gs before hval0 hW hcnd _
  have hval : ∀ (j : Nat) t v, Try.f6.params[j]? = some t → args[j]? = some v → Value.okWide Try.prog W .any base t v := hval0
  have hW' := hW
  obtain ⟨p, q, hA0, hV, rfl, hfz, hnd⟩ := hW
  have hA : DataW.TrodAll enc Try.prog W 0 (fun _ => true) true Try.f6.params.toList args.toList ds p := hA0
  rw [Try.params6] at hA hval
  obtain ⟨v0, vs0, d0, ds0, p0, q0, hargs, rfl, rfl, h0, r0⟩ := trodAll_cons hA
  obtain ⟨v1, vs1, d1, ds1, p1, q1, rfl, rfl, rfl, h1, r1⟩ := trodAll_cons r0
  obtain ⟨rfl, rfl, rfl⟩ := trodAll_nil r1
  obtain rfl : args = #[v0, v1] := by cases args; simp_all
  obtain ⟨rfl, rfl⟩ := trodVars_none hV
  have k0 := h0
  have lt0 : ∀ x ∈ p0, x.block < W.heap.size := by obtain ⟨m, hm⟩ := k0; exact DataW.trod_lt m _ _ _ hm
  obtain ⟨c0_0, c0_1, c0_2, y0_0, y0_1, y0_2, m0, rfl, rfl, rfl, hy0_0, hy0_1, hy0_2⟩ := Joins.open_agg3 Try.underlying24 (by kernel_rfl) cells24 (hval 0 24 v0 rfl rfl) h0
  obtain ⟨a0_0, e0_0, rfl, w0_0⟩ := DataW.trod_int Try.underlying3 hy0_0
  simp only [List.cons.injEq, and_true] at e0_0
  subst e0_0
  obtain ⟨a0_1, e0_1, rfl, w0_1⟩ := DataW.trod_int Try.underlying3 hy0_1
  simp only [List.cons.injEq, and_true] at e0_1
  subst e0_1
  obtain ⟨a0_2, len0_2, cap0_2, e0_2⟩ := Joins.slice_form Try.underlying22 hy0_2
  simp only [List.cons.injEq, and_true] at e0_2
  subst e0_2
  obtain ⟨z0_2, w0_2⟩ : ∃ zs, IsRow .i64 W a0_2 len0_2 cap0_2 zs := isRow_of Try.underlying22 Try.underlying3 (by kernel_rfl) hy0_2
  have k1 := h1
  have lt1 : ∀ x ∈ p1, x.block < W.heap.size := by obtain ⟨m, hm⟩ := k1; exact DataW.trod_lt m _ _ _ hm
  obtain ⟨c1_0, c1_1, c1_2, y1_0, y1_1, y1_2, m1, rfl, rfl, rfl, hy1_0, hy1_1, hy1_2⟩ := Joins.open_agg3 Try.underlying24 (by kernel_rfl) cells24 (hval 1 24 v1 rfl rfl) h1
  obtain ⟨a1_0, e1_0, rfl, w1_0⟩ := DataW.trod_int Try.underlying3 hy1_0
  simp only [List.cons.injEq, and_true] at e1_0
  subst e1_0
  obtain ⟨a1_1, e1_1, rfl, w1_1⟩ := DataW.trod_int Try.underlying3 hy1_1
  simp only [List.cons.injEq, and_true] at e1_1
  subst e1_1
  obtain ⟨a1_2, len1_2, cap1_2, e1_2⟩ := Joins.slice_form Try.underlying22 hy1_2
  simp only [List.cons.injEq, and_true] at e1_2
  subst e1_2
  obtain ⟨z1_2, w1_2⟩ : ∃ zs, IsRow .i64 W a1_2 len1_2 cap1_2 zs := isRow_of Try.underlying22 Try.underlying3 (by kernel_rfl) hy1_2
  clear hA0 hval0
  refine (walk a0_0 a0_1 a0_2 len0_2 cap0_2 z0_2 a1_0 a1_1 a1_2 len1_2 cap1_2 z1_2 W w0_0 w0_1 w0_2 w1_0 w1_1 w1_2).mono fun e W' ⟨he, bel⟩ => ?_
  subst he
  exact ⟨_, rfl, _, _, _, [], _, [], hW', trodAll_mk1 (shut_bool Try.underlying4 _), (trodAll_cons_mk (Below.trod laidOut (by kernel_rfl) (of_decide_eq_true (by kernel_rfl)) k0 bel lt0) (trodAll_cons_mk (Below.trod laidOut (by kernel_rfl) (of_decide_eq_true (by kernel_rfl)) k1 bel lt1) trodAll_mk0)), rfl, bel.frame _, fun h => by cases h⟩

theorem over : Rows.fnExactSameSpaceRow.holds Try.pinned (OpenSpec.ofChange Rows.fnExactSameSpaceSpec) :=
  OpenClaim.holds_of_wide 6 Try.f6 rfl rfl rfl rfl rfl rfl rfl ⟨rfl, rfl, rfl, rfl, rfl⟩ rfl rfl rfl rfl rfl (by kernel_rfl) Try.func6 (by kernel_rfl)
    (of_decide_eq_true (by kernel_rfl)) (by unfold Func.isWrapper; first | (rw [if_pos (by decide +kernel)]; kernel_rfl) | (rw [if_neg (by decide +kernel)]; exact ⟨rfl, rfl⟩))
    (fun os started H enc _ => lifted os started H enc)

/-- ████ THE STATEMENT ████ -/
theorem proved : Rows.FnExactSameSpaceSaid := over
#print axioms proved
end Go.Proofs.Ytbdofgkcedpamaa.fnExactSameSpace
