/-
  Proved: for every matrix, the law FnExactHermiteForm returns true: the program's HermiteForm answers as the model's, writes into no argument, and its answer owns its memory.
  Conditions: none beyond the row's own (the arguments read as data).
-/
import Derived.Test.YtpelnfenfeoeeaaRows
import Derived.ChangeOld
import Derived.Below
import Derived.Deep.RegionHeld3
import Derived.Deep.DeepCutAuto
import Derived.WalkKit
import Derived.ProofKit
import Derived.OpenShut
import Derived.ShutString
import Derived.Carry
import Derived.Lib.SmallJoins
import Derived.Test.YtpelnfenfeoeeaaPk1
import Derived.Test.YtpelnfenfeoeeaaPk18
import Derived.Test.YtpelnfenfeoeeaaPk19

namespace Go.Proofs.Ytpelnfenfeoeeaa.fnExactHermiteForm
open Go.ChangeShapes Go.WideShapes Go.ChangeAt Go.RowKit
open Go.ChangeMaps (open_string shut_string)
set_option linter.unusedVariables false

theorem own : ownKnob Try.prog.godebug = none := by kernel_rfl
theorem laidOut : laidOutB Try.prog = true := by kernel_rfl
theorem cells24 : Try.prog.cellsOf 24 = 3 := by kernel_rfl
/-- What the walk is told of a slice of integers that came in: it is nil; or it leads to a row of 'cap' cells, the numbers 'zs' (the first 'len' are its elements), each fitting its kind. -/
def IsRow (k : IntKind) (w : World) (a : Option Addr) (len cap : Nat) (zs : List Int) : Prop :=
  (a = none ∧ len = 0 ∧ cap = 0 ∧ zs = []) ∨
  ∃ x, a = some x ∧ len ≤ cap ∧ cap ≤ maxLen ∧ zs.length = cap ∧ (∀ i, i < zs.length → w.cell? (x.add i) = some (.int k (zs.getD i 0))) ∧ ∀ n ∈ zs, (Lit.int k n).wf = true
theorem isRow_of {H : Type} {enc : TypeId × Value → H} {P : Program} {W : World} {base : Nat} {held : Bool} {t e : TypeId} {k : IntKind} {a : Option Addr} {len cap fuel : Nat} {x : DataW H × List MemPlace}
    (ht : P.underlying t = some (.slice e)) (he : P.underlying e = some (.int k)) (hc : P.cellsOf e = 1) (hf : DataW.trod enc P W base (fun _ => true) held fuel t [.slice a len cap] = some x) : ∃ zs, IsRow k W a len cap zs := by
  rcases open_ints ht he hc hf with ⟨hcs, _⟩ | ⟨x, l, c, zs, hcs, _, hl, hm, hz, _, hcell, hwz⟩
  · simp at hcs
    obtain ⟨rfl, rfl, rfl⟩ := hcs
    exact ⟨[], .inl ⟨rfl, rfl, rfl, rfl⟩⟩
  · simp at hcs
    obtain ⟨rfl, rfl, rfl⟩ := hcs
    exact ⟨zs, .inr ⟨_, rfl, hl, hm, by simpa using hz, hcell, hwz⟩⟩
theorem codeRd {w : World} {a : Option Addr} {len cap : Nat} {zs : List Int} (h : IsRow .i64 w a len cap zs) : ∃ xs : List Int, Rd w a xs ∧ len = xs.length ∧ len ≤ 9223372036854775807 := by
  rcases h with ⟨rfl, rfl, rfl, rfl⟩ | ⟨x, rfl, hl, hm, hz, hcell, hwf⟩
  · exact ⟨[], Rd.nil _ _, rfl, by omega⟩
  · refine ⟨zs.take len, fun i hi => ?_, by simp; omega, by unfold maxLen at hm; omega⟩
    simp only [List.length_take] at hi
    obtain ⟨b, o, rfl, hc⟩ := ints_at hcell (by omega)
    refine ⟨b, o, rfl, ?_⟩
    rw [hc i (by omega)]
    simp [List.getD, show i < len by omega]
theorem own_two {B : Nat} {w : World} {u v : Value} {xs ys : List Int} (h : Own B w u xs) (h' : Own B w v ys) (hd : ∀ k, u.ownBlock = some k → v.ownBlock ≠ some k) (hs : B ≤ w.heap.size) :
    ∃ b1 t1 b2 t2, In b1 t1 w u xs ∧ In b2 t2 w v ys ∧ B ≤ b1 ∧ b1 ≤ t1 ∧ t1 ≤ w.heap.size ∧ B ≤ b2 ∧ b2 ≤ t2 ∧ t2 ≤ w.heap.size ∧ (t1 ≤ b2 ∨ t2 ≤ b1) := by
  rcases h with h | ⟨g, cap, rfl, hB, hi, hl, hc⟩
  · rcases h' with h' | ⟨g', cap', rfl, hB', hi', hl', hc'⟩
    · exact ⟨B, B, B, B, .inl h, .inl h', Nat.le_refl _, Nat.le_refl _, hs, Nat.le_refl _, Nat.le_refl _, hs, .inl (Nat.le_refl _)⟩
    · exact ⟨B, B, g', g' + 1, .inl h, .inr ⟨g', cap', rfl, Nat.le_refl _, Nat.lt_succ_self _, hi', hl', hc'⟩, Nat.le_refl _, Nat.le_refl _, hs, hB', Nat.le_succ _, hi'.lt, .inl hB'⟩
  · rcases h' with h' | ⟨g', cap', rfl, hB', hi', hl', hc'⟩
    · exact ⟨g, g + 1, B, B, .inr ⟨g, cap, rfl, Nat.le_refl _, Nat.lt_succ_self _, hi, hl, hc⟩, .inl h', hB, Nat.le_succ _, hi.lt, Nat.le_refl _, Nat.le_refl _, hs, .inr hB⟩
    · have hne : g ≠ g' := fun e => hd g rfl (by rw [e]; rfl)
      exact ⟨g, g + 1, g', g' + 1, .inr ⟨g, cap, rfl, Nat.le_refl _, Nat.lt_succ_self _, hi, hl, hc⟩, .inr ⟨g', cap', rfl, Nat.le_refl _, Nat.lt_succ_self _, hi', hl', hc'⟩, hB, Nat.le_succ _, hi.lt, hB', Nat.le_succ _, hi'.lt, by omega⟩
set_option maxRecDepth 100000 in
set_option maxHeartbeats 8000000 in

theorem walk (a0_0 : Int) (a0_1 : Int) (a0_2 : Option Addr) (len0_2 cap0_2 : Nat) (z0_2 : List Int) (w : World) (w0_0 : (Lit.int .i64 a0_0).wf = true) (w0_1 : (Lit.int .i64 a0_1).wf = true) (w0_2 : IsRow .i64 w a0_2 len0_2 cap0_2 z0_2) :
    Calls Try.prog 8 #[.agg #[.int .i64 a0_0, .int .i64 a0_1, .slice a0_2 len0_2 cap0_2]] w fun e w' => e = .returned (.bool true) ∧ Below w.heap.size w w' := by
  obtain ⟨xs0, hx, rfl, lx0⟩ := codeRd w0_2
  have HX0 := Lib.hid hx
  clear hx w0_2 w0_0 w0_1
  by_cases bx0 : xs0.length ≤ 1048576
  · go_enter Try.func8, Try.ntmps8
    go_wp2_with fail
    refine (szM a0_0 a0_1 a0_2 xs0.length cap0_2 (1048576) _ (by omega) (by omega)).mono ?_
    rintro e w2 ⟨rfl, hb⟩
    have P0 : Hid (Blk3 w2 w.heap.size 24 (.int .i64 a0_0) (.int .i64 a0_1) (.slice a0_2 xs0.length cap0_2)) := (Blk3.at_ _ _ _ _ rfl).keep hb (by simp)
    have B : Hid (Below w.heap.size w w2) := ((Below.refl _ _).alloc (Nat.le_refl _) _).trans (hb.mono (by simp))
    clear hb
    obtain ⟨cc1_00, cc1_01, cc1_02, -, -, -⟩ := P0.out.all
    have ll1_0 := P0.out.lt
    go_wp2_with fail
    obtain ⟨er, her⟩ : ∃ er, herR a0_0 a0_1 xs0 = er := ⟨_, rfl⟩
    have ERH := Lib.hid her
    have lz : er.zs.length ≤ 600 := by rw [← her]; exact herR_zs _ _ _
    clear her
    refine (toM a0_0 a0_1 a0_2 cap0_2 xs0 _ (HX0.out.below B.out) (by omega)).mono ?_
    rintro e w3 ⟨gO0, rfl, gg, gi, hb⟩
    have P0 := Lib.hid (P0.out.step hb)
    have B := Lib.hid (stepB B.out hb)
    have IO0 := Lib.hid gi
    clear hb gg gi
    obtain ⟨cc2_00, cc2_01, cc2_02, -, -, -⟩ := P0.out.all
    have ll2_0 := P0.out.lt
    go_wp2_with fail
    refine (sHerm a0_0 a0_1 (some ⟨gO0, 0, none⟩) xs0.length xs0 _ IO0.out.rd (by omega) (Spot.of _ _)).mono ?_
    rintro e w4 ⟨vO0, vO1, rfl, o0, o1, hd, hb⟩
    rw [ERH.out] at o0 o1 ⊢
    obtain ⟨cO0, tO0, cO1, tO1, i0, i1, xO1, xO2, xO3, xO4, xO5, xO6, xO7⟩ := own_two o0 o1 hd hb.size
    have zO0 := o0.small
    have zO1 := o1.small
    obtain ⟨qO0, qcO0, rfl, -, -⟩ := o0.form
    obtain ⟨qO1, qcO1, rfl, -, -⟩ := o1.form
    have P0 := Lib.hid (P0.out.step hb)
    have B := Lib.hid (stepB B.out hb)
    have O0 := Lib.hid i0
    have O1 := Lib.hid i1
    have yO1 : w3.heap.size ≤ cO0 := by simpa using xO1
    have yO4 : w3.heap.size ≤ cO1 := by simpa using xO4
    have sw4 : w3.heap.size ≤ w4.heap.size := by have := hb.size; simpa using this
    clear hb o0 o1 hd i0 i1 xO1 xO4
    have KO0 : Hid (Blk3 ((w4.alloc (.cells #[.int .i64 er.r1, .int .i64 er.c1, .slice qO0 er.zs.length qcO0] 26)).alloc (.cells #[.int .i64 er.r2, .int .i64 er.c2, .slice qO1 er.us.length qcO1] 26)) (w4.heap.size) 26 (.int .i64 er.r1) (.int .i64 er.c1) (.slice qO0 er.zs.length qcO0)) := (Blk3.at_ _ _ _ _ rfl).old _
    have KO1 : Hid (Blk3 ((w4.alloc (.cells #[.int .i64 er.r1, .int .i64 er.c1, .slice qO0 er.zs.length qcO0] 26)).alloc (.cells #[.int .i64 er.r2, .int .i64 er.c2, .slice qO1 er.us.length qcO1] 26)) (w4.heap.size + 1) 26 (.int .i64 er.r2) (.int .i64 er.c2) (.slice qO1 er.us.length qcO1)) := Blk3.at_ _ _ _ _ (by simp)
    obtain ⟨cc3_00, cc3_01, cc3_02, -, -, -⟩ := P0.out.all
    have ll3_0 := P0.out.lt
    go_wp2_with fail
    refine (toM a0_0 a0_1 a0_2 cap0_2 xs0 _ (HX0.out.below ((B.out.alloc B.out.size _).alloc (by have := B.out.size; simp; omega) _)) (by omega)).mono ?_
    rintro e w5 ⟨gx0, rfl, ggx, gix, hb⟩
    have KO0 := Lib.hid (KO0.out.step hb)
    have KO1 := Lib.hid (KO1.out.step hb)
    have P0 := Lib.hid (((P0.out.old _).old _).step hb)
    have O0 := Lib.hid (((O0.out.old _).old _).keep hb)
    have O1 := Lib.hid (((O1.out.old _).old _).keep hb)
    have B := Lib.hid (stepB ((B.out.alloc B.out.size _).alloc (by have := B.out.size; simp; omega) _) hb)
    have X0 : Hid (In (w4.heap.size + 2) w5.heap.size w5 (.slice (some ⟨gx0, 0, none⟩) xs0.length xs0.length) xs0) := In.of_new (by simpa using ggx) gix (by omega)
    have sw5 : (w4.heap.size + 2) ≤ w5.heap.size := by have := hb.size; simpa using this
    have KX0 : Hid (Blk3 (w5.alloc (.cells #[.int .i64 a0_0, .int .i64 a0_1, .slice (some ⟨gx0, 0, none⟩) xs0.length xs0.length] 26)) w5.heap.size 26 (.int .i64 a0_0) (.int .i64 a0_1) (.slice (some ⟨gx0, 0, none⟩) xs0.length xs0.length)) := Blk3.at_ _ _ _ _ rfl
    clear hb ggx gix
    obtain ⟨cc4_00, cc4_01, cc4_02, -, -, -⟩ := P0.out.all
    have ll4_0 := P0.out.lt
    obtain ⟨cc4_10, cc4_11, cc4_12, -, -, -⟩ := KO0.out.all
    have ll4_1 := KO0.out.lt
    obtain ⟨cc4_20, cc4_21, cc4_22, -, -, -⟩ := KO1.out.all
    have ll4_2 := KO1.out.lt
    go_wp2_with fail
    refine (iHerm a0_0 a0_1 (some ⟨gx0, 0, none⟩) xs0.length xs0 _ (X0.out.old _).rd.2.1 (by omega) (Spot.of _ _)).mono ?_
    rintro e w6 ⟨vG0, vG1, rfl, o0, o1, hd, hb⟩
    rw [ERH.out] at o0 o1 ⊢
    obtain ⟨cG0, tG0, cG1, tG1, i0, i1, xG1, xG2, xG3, xG4, xG5, xG6, xG7⟩ := own_two o0 o1 hd hb.size
    have zG0 := o0.small
    have zG1 := o1.small
    obtain ⟨qG0, qcG0, rfl, -, -⟩ := o0.form
    obtain ⟨qG1, qcG1, rfl, -, -⟩ := o1.form
    have KX0 := Lib.hid (KX0.out.step hb)
    have P0 := Lib.hid ((P0.out.old _).step hb)
    have O0 := Lib.hid ((O0.out.old _).keep hb)
    have O1 := Lib.hid ((O1.out.old _).keep hb)
    have KO0 := Lib.hid ((KO0.out.old _).step hb)
    have KO1 := Lib.hid ((KO1.out.old _).step hb)
    have X0 := Lib.hid ((X0.out.old _).keep hb)
    have B := Lib.hid (stepB (B.out.alloc B.out.size _) hb)
    have G0 := Lib.hid i0
    have G1 := Lib.hid i1
    have yG1 : (w5.heap.size + 1) ≤ cG0 := by simpa using xG1
    have yG4 : (w5.heap.size + 1) ≤ cG1 := by simpa using xG4
    have sw6 : (w5.heap.size + 1) ≤ w6.heap.size := by have := hb.size; simpa using this
    clear hb o0 o1 hd i0 i1 xG1 xG4
    have KG0 : Hid (Blk3 ((w6.alloc (.cells #[.int .i64 er.r1, .int .i64 er.c1, .slice qG0 er.zs.length qcG0] 26)).alloc (.cells #[.int .i64 er.r2, .int .i64 er.c2, .slice qG1 er.us.length qcG1] 26)) (w6.heap.size) 26 (.int .i64 er.r1) (.int .i64 er.c1) (.slice qG0 er.zs.length qcG0)) := (Blk3.at_ _ _ _ _ rfl).old _
    have KG1 : Hid (Blk3 ((w6.alloc (.cells #[.int .i64 er.r1, .int .i64 er.c1, .slice qG0 er.zs.length qcG0] 26)).alloc (.cells #[.int .i64 er.r2, .int .i64 er.c2, .slice qG1 er.us.length qcG1] 26)) (w6.heap.size + 1) 26 (.int .i64 er.r2) (.int .i64 er.c2) (.slice qG1 er.us.length qcG1)) := Blk3.at_ _ _ _ _ (by simp)
    obtain ⟨cc5_00, cc5_01, cc5_02, -, -, -⟩ := P0.out.all
    have ll5_0 := P0.out.lt
    obtain ⟨cc5_10, cc5_11, cc5_12, -, -, -⟩ := KO0.out.all
    have ll5_1 := KO0.out.lt
    obtain ⟨cc5_20, cc5_21, cc5_22, -, -, -⟩ := KO1.out.all
    have ll5_2 := KO1.out.lt
    obtain ⟨cc5_30, cc5_31, cc5_32, -, -, -⟩ := KX0.out.all
    have ll5_3 := KX0.out.lt
    go_wp2_with fail
    refine (eqM_t er.r1 er.c1 qG0 qO0 qcG0 qcO0 er.zs _ ((G0.out.old _).old _).rd.2.1 ((O0.out.old _).old _).rd.2.1 zG0).mono ?_
    rintro e w7 ⟨rfl, hb⟩
    have KG0 := Lib.hid (KG0.out.step hb)
    have KG1 := Lib.hid (KG1.out.step hb)
    have P0 := Lib.hid (((P0.out.old _).old _).step hb)
    have O0 := Lib.hid (((O0.out.old _).old _).keep hb)
    have O1 := Lib.hid (((O1.out.old _).old _).keep hb)
    have KO0 := Lib.hid (((KO0.out.old _).old _).step hb)
    have KO1 := Lib.hid (((KO1.out.old _).old _).step hb)
    have X0 := Lib.hid (((X0.out.old _).old _).keep hb)
    have KX0 := Lib.hid (((KX0.out.old _).old _).step hb)
    have G0 := Lib.hid (((G0.out.old _).old _).keep hb)
    have G1 := Lib.hid (((G1.out.old _).old _).keep hb)
    have B := Lib.hid (stepB ((B.out.alloc B.out.size _).alloc (by have := B.out.size; simp; omega) _) hb)
    clear hb
    obtain ⟨cc6_00, cc6_01, cc6_02, -, -, -⟩ := P0.out.all
    have ll6_0 := P0.out.lt
    obtain ⟨cc6_10, cc6_11, cc6_12, -, -, -⟩ := KO0.out.all
    have ll6_1 := KO0.out.lt
    obtain ⟨cc6_20, cc6_21, cc6_22, -, -, -⟩ := KO1.out.all
    have ll6_2 := KO1.out.lt
    obtain ⟨cc6_30, cc6_31, cc6_32, -, -, -⟩ := KX0.out.all
    have ll6_3 := KX0.out.lt
    obtain ⟨cc6_40, cc6_41, cc6_42, -, -, -⟩ := KG0.out.all
    have ll6_4 := KG0.out.lt
    obtain ⟨cc6_50, cc6_51, cc6_52, -, -, -⟩ := KG1.out.all
    have ll6_5 := KG1.out.lt
    go_wp2_with fail
    refine (eqM_t er.r2 er.c2 qG1 qO1 qcG1 qcO1 er.us _ G1.out.rd.2.1 O1.out.rd.2.1 zG1).mono ?_
    rintro e w8 ⟨rfl, hb⟩
    have P0 := Lib.hid (P0.out.step hb)
    have O0 := Lib.hid (O0.out.keep hb)
    have O1 := Lib.hid (O1.out.keep hb)
    have KO0 := Lib.hid (KO0.out.step hb)
    have KO1 := Lib.hid (KO1.out.step hb)
    have X0 := Lib.hid (X0.out.keep hb)
    have KX0 := Lib.hid (KX0.out.step hb)
    have G0 := Lib.hid (G0.out.keep hb)
    have G1 := Lib.hid (G1.out.keep hb)
    have KG0 := Lib.hid (KG0.out.step hb)
    have KG1 := Lib.hid (KG1.out.step hb)
    have B := Lib.hid (stepB B.out hb)
    clear hb
    obtain ⟨cc7_00, cc7_01, cc7_02, -, -, -⟩ := P0.out.all
    have ll7_0 := P0.out.lt
    obtain ⟨cc7_10, cc7_11, cc7_12, -, -, -⟩ := KO0.out.all
    have ll7_1 := KO0.out.lt
    obtain ⟨cc7_20, cc7_21, cc7_22, -, -, -⟩ := KO1.out.all
    have ll7_2 := KO1.out.lt
    obtain ⟨cc7_30, cc7_31, cc7_32, -, -, -⟩ := KX0.out.all
    have ll7_3 := KX0.out.lt
    obtain ⟨cc7_40, cc7_41, cc7_42, -, -, -⟩ := KG0.out.all
    have ll7_4 := KG0.out.lt
    obtain ⟨cc7_50, cc7_51, cc7_52, -, -, -⟩ := KG1.out.all
    have ll7_5 := KG1.out.lt
    go_wp2_with fail
    refine wp_region_held_drew (S := fun w' => Below w8.heap.size w8 w') (by kernel_rfl) (Below.refl _ _).drew (fun hH => ?_)
    refine wpAnyH_take (i := 0) (v := ?_) (by simp only [List.getElem?_toArray, List.getElem?_cons_zero]; rfl) (by kernel_rfl) (by kernel_rfl) (by kernel_rfl) (by exact fun _ _ _ h => h) (Or.inl ⟨by rfl, ?_⟩) hH ?_
    rotate_left
    · (intro wS hS; (try dsimp only at hS); obtain ⟨k1, k2, k3, k4, k5, k6⟩ := six KX0.out P0.out hS; go_simp; try rfl)
    try simp only [Act.put, List.setIfInBounds_toArray, List.set_cons_zero, List.set_cons_succ]
    refine wpAnyH_take (i := 1) (v := ?_) (by simp only [List.getElem?_toArray, List.getElem?_cons_succ, List.getElem?_cons_zero]; rfl) (by kernel_rfl) (by kernel_rfl) (by kernel_rfl) (by exact fun _ _ _ h => h) (Or.inl ⟨by rfl, ?_⟩) hH ?_
    rotate_left
    · (intro wS hS; (try dsimp only at hS); obtain ⟨k1, k2, k3, k4, k5, k6⟩ := six KX0.out P0.out hS; go_simp; try rfl)
    try simp only [Act.put, List.setIfInBounds_toArray, List.set_cons_zero, List.set_cons_succ]
    refine wpAnyH_ready (rs := [2]) (by kernel_rfl) (by simp) ?_
    refine AllReadyH.cons (by simp only [List.getElem?_toArray, List.getElem?_cons_succ, List.getElem?_cons_zero]; rfl) (fun K hK => ?_) AllReadyH.nil
    go_simp
    (with_reducible refine (toM a0_0 a0_1 a0_2 cap0_2 xs0 _ (HX0.out.below (stepB B.out hH)) (by omega)).mono ?_)
    rintro e v30 ⟨g30, rfl, gg30, gi30, hb30⟩
    have I30 := Lib.hid gi30
    clear gi30 gg30
    try dsimp only
    refine hK.out _ _ ?_ (fun hH2 => ?_)
    · exact hH.trans (hb30.mono hH.size)
    clear hK K hH
    have hH := hH2
    clear hH2
    try simp only [Act.put, List.setIfInBounds_toArray, List.set_cons_zero, List.set_cons_succ]
    refine wpAnyH_ready (rs := [3]) (by kernel_rfl) (by simp) ?_
    refine AllReadyH.cons (by simp only [List.getElem?_toArray, List.getElem?_cons_succ, List.getElem?_cons_zero]; rfl) (fun K hK => ?_) AllReadyH.nil
    go_simp
    (with_reducible refine (eqM_t a0_0 a0_1 (some ⟨gx0, 0, none⟩) (some ⟨g30, 0, none⟩) xs0.length xs0.length xs0 _ (X0.out.keep hH).rd.2.1 I30.out.rd (by omega)).mono ?_)
    rintro e v31 ⟨rfl, hb31⟩
    try dsimp only
    refine hK.out _ _ ?_ (fun hH2 => ?_)
    · exact hH.trans (hb31.mono hH.size)
    clear hK K hH
    have hH := hH2
    clear hH2
    try simp only [Act.put, List.setIfInBounds_toArray, List.set_cons_zero, List.set_cons_succ]
    refine wpAnyH_take (i := 4) (v := ?_) (by simp only [List.getElem?_toArray, List.getElem?_cons_succ, List.getElem?_cons_zero]; rfl) (by kernel_rfl) (by kernel_rfl) (by kernel_rfl) (by exact fun _ _ _ h => h) (Or.inl ⟨by rfl, ?_⟩) hH ?_
    rotate_left
    · (intro wS hS; clear hS; go_simp; try rfl)
    try simp only [Act.put, List.setIfInBounds_toArray, List.set_cons_zero, List.set_cons_succ]
    refine wpAnyH_done (by kernel_rfl) ?_ _
    have hb := hH
    clear hH hb30 hb31
    have P0 := Lib.hid (P0.out.step hb)
    have O0 := Lib.hid (O0.out.keep hb)
    have O1 := Lib.hid (O1.out.keep hb)
    have KO0 := Lib.hid (KO0.out.step hb)
    have KO1 := Lib.hid (KO1.out.step hb)
    have X0 := Lib.hid (X0.out.keep hb)
    have KX0 := Lib.hid (KX0.out.step hb)
    have G0 := Lib.hid (G0.out.keep hb)
    have G1 := Lib.hid (G1.out.keep hb)
    have KG0 := Lib.hid (KG0.out.step hb)
    have KG1 := Lib.hid (KG1.out.step hb)
    have B := Lib.hid (stepB B.out hb)
    clear hb I30
    obtain ⟨cc8_00, cc8_01, cc8_02, -, -, -⟩ := P0.out.all
    have ll8_0 := P0.out.lt
    obtain ⟨cc8_10, cc8_11, cc8_12, -, -, -⟩ := KO0.out.all
    have ll8_1 := KO0.out.lt
    obtain ⟨cc8_20, cc8_21, cc8_22, -, -, -⟩ := KO1.out.all
    have ll8_2 := KO1.out.lt
    obtain ⟨cc8_30, cc8_31, cc8_32, -, -, -⟩ := KX0.out.all
    have ll8_3 := KX0.out.lt
    obtain ⟨cc8_40, cc8_41, cc8_42, -, -, -⟩ := KG0.out.all
    have ll8_4 := KG0.out.lt
    obtain ⟨cc8_50, cc8_51, cc8_52, -, -, -⟩ := KG1.out.all
    have ll8_5 := KG1.out.lt
    go_wp2_with fail
    refine (markIn a0_0 a0_1 (some ⟨gx0, 0, none⟩) xs0.length xs0.length xs0 (1) _ X0.out (by omega) (by omega)).mono ?_
    rintro e w9 ⟨rfl, inn, hc⟩
    have P0 := Lib.hid (P0.out.chg hc (by omega))
    have O0 := Lib.hid (O0.out.chg hc (by omega))
    have O1 := Lib.hid (O1.out.chg hc (by omega))
    have KO0 := Lib.hid (KO0.out.chg hc (by omega))
    have KO1 := Lib.hid (KO1.out.chg hc (by omega))
    have KX0 := Lib.hid (KX0.out.chg hc (by omega))
    have G0 := Lib.hid (G0.out.chg hc (by omega))
    have G1 := Lib.hid (G1.out.chg hc (by omega))
    have KG0 := Lib.hid (KG0.out.chg hc (by omega))
    have KG1 := Lib.hid (KG1.out.chg hc (by omega))
    have B := Lib.hid (Below.chg B.out hc (by omega) B.out.size)
    have X0 := Lib.hid inn
    clear hc inn
    obtain ⟨cc9_00, cc9_01, cc9_02, -, -, -⟩ := P0.out.all
    have ll9_0 := P0.out.lt
    obtain ⟨cc9_10, cc9_11, cc9_12, -, -, -⟩ := KO0.out.all
    have ll9_1 := KO0.out.lt
    obtain ⟨cc9_20, cc9_21, cc9_22, -, -, -⟩ := KO1.out.all
    have ll9_2 := KO1.out.lt
    obtain ⟨cc9_30, cc9_31, cc9_32, -, -, -⟩ := KX0.out.all
    have ll9_3 := KX0.out.lt
    obtain ⟨cc9_40, cc9_41, cc9_42, -, -, -⟩ := KG0.out.all
    have ll9_4 := KG0.out.lt
    obtain ⟨cc9_50, cc9_51, cc9_52, -, -, -⟩ := KG1.out.all
    have ll9_5 := KG1.out.lt
    go_wp2_with fail
    refine (eqM_t er.r1 er.c1 qG0 qO0 qcG0 qcO0 er.zs _ G0.out.rd.2.1 O0.out.rd.2.1 zG0).mono ?_
    rintro e w10 ⟨rfl, hb⟩
    have P0 := Lib.hid (P0.out.step hb)
    have O0 := Lib.hid (O0.out.keep hb)
    have O1 := Lib.hid (O1.out.keep hb)
    have KO0 := Lib.hid (KO0.out.step hb)
    have KO1 := Lib.hid (KO1.out.step hb)
    have KX0 := Lib.hid (KX0.out.step hb)
    have G0 := Lib.hid (G0.out.keep hb)
    have G1 := Lib.hid (G1.out.keep hb)
    have KG0 := Lib.hid (KG0.out.step hb)
    have KG1 := Lib.hid (KG1.out.step hb)
    have B := Lib.hid (stepB B.out hb)
    clear hb
    obtain ⟨cc10_00, cc10_01, cc10_02, -, -, -⟩ := P0.out.all
    have ll10_0 := P0.out.lt
    obtain ⟨cc10_10, cc10_11, cc10_12, -, -, -⟩ := KO0.out.all
    have ll10_1 := KO0.out.lt
    obtain ⟨cc10_20, cc10_21, cc10_22, -, -, -⟩ := KO1.out.all
    have ll10_2 := KO1.out.lt
    obtain ⟨cc10_30, cc10_31, cc10_32, -, -, -⟩ := KX0.out.all
    have ll10_3 := KX0.out.lt
    obtain ⟨cc10_40, cc10_41, cc10_42, -, -, -⟩ := KG0.out.all
    have ll10_4 := KG0.out.lt
    obtain ⟨cc10_50, cc10_51, cc10_52, -, -, -⟩ := KG1.out.all
    have ll10_5 := KG1.out.lt
    go_wp2_with fail
    refine (eqM_t er.r2 er.c2 qG1 qO1 qcG1 qcO1 er.us _ G1.out.rd.2.1 O1.out.rd.2.1 zG1).mono ?_
    rintro e w11 ⟨rfl, hb⟩
    have P0 := Lib.hid (P0.out.step hb)
    have O0 := Lib.hid (O0.out.keep hb)
    have O1 := Lib.hid (O1.out.keep hb)
    have KO0 := Lib.hid (KO0.out.step hb)
    have KO1 := Lib.hid (KO1.out.step hb)
    have KX0 := Lib.hid (KX0.out.step hb)
    have G0 := Lib.hid (G0.out.keep hb)
    have G1 := Lib.hid (G1.out.keep hb)
    have KG0 := Lib.hid (KG0.out.step hb)
    have KG1 := Lib.hid (KG1.out.step hb)
    have B := Lib.hid (stepB B.out hb)
    clear hb
    obtain ⟨cc11_00, cc11_01, cc11_02, -, -, -⟩ := P0.out.all
    have ll11_0 := P0.out.lt
    obtain ⟨cc11_10, cc11_11, cc11_12, -, -, -⟩ := KO0.out.all
    have ll11_1 := KO0.out.lt
    obtain ⟨cc11_20, cc11_21, cc11_22, -, -, -⟩ := KO1.out.all
    have ll11_2 := KO1.out.lt
    obtain ⟨cc11_30, cc11_31, cc11_32, -, -, -⟩ := KX0.out.all
    have ll11_3 := KX0.out.lt
    obtain ⟨cc11_40, cc11_41, cc11_42, -, -, -⟩ := KG0.out.all
    have ll11_4 := KG0.out.lt
    obtain ⟨cc11_50, cc11_51, cc11_52, -, -, -⟩ := KG1.out.all
    have ll11_5 := KG1.out.lt
    go_wp2_with fail
    refine (markIn er.r1 er.c1 qG0 er.zs.length qcG0 er.zs (1) _ G0.out (by omega) (by omega)).mono ?_
    rintro e w12 ⟨rfl, inn, hc⟩
    have P0 := Lib.hid (P0.out.chg hc (by omega))
    have O0 := Lib.hid (O0.out.chg hc (by omega))
    have O1 := Lib.hid (O1.out.chg hc (by omega))
    have KO0 := Lib.hid (KO0.out.chg hc (by omega))
    have KO1 := Lib.hid (KO1.out.chg hc (by omega))
    have KX0 := Lib.hid (KX0.out.chg hc (by omega))
    have G1 := Lib.hid (G1.out.chg hc (by omega))
    have KG0 := Lib.hid (KG0.out.chg hc (by omega))
    have KG1 := Lib.hid (KG1.out.chg hc (by omega))
    have B := Lib.hid (Below.chg B.out hc (by omega) B.out.size)
    have G0 := Lib.hid inn
    clear hc inn
    obtain ⟨cc12_00, cc12_01, cc12_02, -, -, -⟩ := P0.out.all
    have ll12_0 := P0.out.lt
    obtain ⟨cc12_10, cc12_11, cc12_12, -, -, -⟩ := KO0.out.all
    have ll12_1 := KO0.out.lt
    obtain ⟨cc12_20, cc12_21, cc12_22, -, -, -⟩ := KO1.out.all
    have ll12_2 := KO1.out.lt
    obtain ⟨cc12_30, cc12_31, cc12_32, -, -, -⟩ := KX0.out.all
    have ll12_3 := KX0.out.lt
    obtain ⟨cc12_40, cc12_41, cc12_42, -, -, -⟩ := KG0.out.all
    have ll12_4 := KG0.out.lt
    obtain ⟨cc12_50, cc12_51, cc12_52, -, -, -⟩ := KG1.out.all
    have ll12_5 := KG1.out.lt
    go_wp2_with fail
    refine (markIn er.r2 er.c2 qG1 er.us.length qcG1 er.us (1 + er.zs.length) _ G1.out (by omega) (by omega)).mono ?_
    rintro e w13 ⟨rfl, inn, hc⟩
    have P0 := Lib.hid (P0.out.chg hc (by omega))
    have O0 := Lib.hid (O0.out.chg hc (by omega))
    have O1 := Lib.hid (O1.out.chg hc (by omega))
    have KO0 := Lib.hid (KO0.out.chg hc (by omega))
    have KO1 := Lib.hid (KO1.out.chg hc (by omega))
    have KX0 := Lib.hid (KX0.out.chg hc (by omega))
    have KG0 := Lib.hid (KG0.out.chg hc (by omega))
    have KG1 := Lib.hid (KG1.out.chg hc (by omega))
    have G0 := Lib.hid (G0.out.chg hc (by omega))
    have B := Lib.hid (Below.chg B.out hc (by omega) B.out.size)
    have G1 := Lib.hid inn
    clear hc inn
    obtain ⟨cc13_00, cc13_01, cc13_02, -, -, -⟩ := P0.out.all
    have ll13_0 := P0.out.lt
    obtain ⟨cc13_10, cc13_11, cc13_12, -, -, -⟩ := KO0.out.all
    have ll13_1 := KO0.out.lt
    obtain ⟨cc13_20, cc13_21, cc13_22, -, -, -⟩ := KO1.out.all
    have ll13_2 := KO1.out.lt
    obtain ⟨cc13_30, cc13_31, cc13_32, -, -, -⟩ := KX0.out.all
    have ll13_3 := KX0.out.lt
    obtain ⟨cc13_40, cc13_41, cc13_42, -, -, -⟩ := KG0.out.all
    have ll13_4 := KG0.out.lt
    obtain ⟨cc13_50, cc13_51, cc13_52, -, -, -⟩ := KG1.out.all
    have ll13_5 := KG1.out.lt
    go_wp2_with fail
    refine (heldM er.r1 er.c1 qG0 qcG0 er.zs.length (1) _ G0.out.rd.2.1 zG0 (by omega) (by omega)).mono ?_
    rintro e w14 ⟨rfl, hb⟩
    have P0 := Lib.hid (P0.out.step hb)
    have O0 := Lib.hid (O0.out.keep hb)
    have O1 := Lib.hid (O1.out.keep hb)
    have KO0 := Lib.hid (KO0.out.step hb)
    have KO1 := Lib.hid (KO1.out.step hb)
    have KX0 := Lib.hid (KX0.out.step hb)
    have KG0 := Lib.hid (KG0.out.step hb)
    have KG1 := Lib.hid (KG1.out.step hb)
    have G0 := Lib.hid (G0.out.keep hb)
    have G1 := Lib.hid (G1.out.keep hb)
    have B := Lib.hid (stepB B.out hb)
    clear hb
    obtain ⟨cc14_00, cc14_01, cc14_02, -, -, -⟩ := P0.out.all
    have ll14_0 := P0.out.lt
    obtain ⟨cc14_10, cc14_11, cc14_12, -, -, -⟩ := KO0.out.all
    have ll14_1 := KO0.out.lt
    obtain ⟨cc14_20, cc14_21, cc14_22, -, -, -⟩ := KO1.out.all
    have ll14_2 := KO1.out.lt
    obtain ⟨cc14_30, cc14_31, cc14_32, -, -, -⟩ := KX0.out.all
    have ll14_3 := KX0.out.lt
    obtain ⟨cc14_40, cc14_41, cc14_42, -, -, -⟩ := KG0.out.all
    have ll14_4 := KG0.out.lt
    obtain ⟨cc14_50, cc14_51, cc14_52, -, -, -⟩ := KG1.out.all
    have ll14_5 := KG1.out.lt
    go_wp2_with fail
    refine (heldM er.r2 er.c2 qG1 qcG1 er.us.length (1 + er.zs.length) _ G1.out.rd.2.1 zG1 (by omega) (by omega)).mono ?_
    rintro e w15 ⟨rfl, hb⟩
    have P0 := Lib.hid (P0.out.step hb)
    have O0 := Lib.hid (O0.out.keep hb)
    have O1 := Lib.hid (O1.out.keep hb)
    have KO0 := Lib.hid (KO0.out.step hb)
    have KO1 := Lib.hid (KO1.out.step hb)
    have KX0 := Lib.hid (KX0.out.step hb)
    have KG0 := Lib.hid (KG0.out.step hb)
    have KG1 := Lib.hid (KG1.out.step hb)
    have G0 := Lib.hid (G0.out.keep hb)
    have G1 := Lib.hid (G1.out.keep hb)
    have B := Lib.hid (stepB B.out hb)
    clear hb
    obtain ⟨cc15_00, cc15_01, cc15_02, -, -, -⟩ := P0.out.all
    have ll15_0 := P0.out.lt
    obtain ⟨cc15_10, cc15_11, cc15_12, -, -, -⟩ := KO0.out.all
    have ll15_1 := KO0.out.lt
    obtain ⟨cc15_20, cc15_21, cc15_22, -, -, -⟩ := KO1.out.all
    have ll15_2 := KO1.out.lt
    obtain ⟨cc15_30, cc15_31, cc15_32, -, -, -⟩ := KX0.out.all
    have ll15_3 := KX0.out.lt
    obtain ⟨cc15_40, cc15_41, cc15_42, -, -, -⟩ := KG0.out.all
    have ll15_4 := KG0.out.lt
    obtain ⟨cc15_50, cc15_51, cc15_52, -, -, -⟩ := KG1.out.all
    have ll15_5 := KG1.out.lt
    go_wp2_with fail
    refine (toM a0_0 a0_1 a0_2 cap0_2 xs0 _ (HX0.out.below B.out) (by omega)).mono ?_
    rintro e w16 ⟨gH0, rfl, gg, gi, hb⟩
    have P0 := Lib.hid (P0.out.step hb)
    have O0 := Lib.hid (O0.out.keep hb)
    have O1 := Lib.hid (O1.out.keep hb)
    have KO0 := Lib.hid (KO0.out.step hb)
    have KO1 := Lib.hid (KO1.out.step hb)
    have KX0 := Lib.hid (KX0.out.step hb)
    have KG0 := Lib.hid (KG0.out.step hb)
    have KG1 := Lib.hid (KG1.out.step hb)
    have G0 := Lib.hid (G0.out.keep hb)
    have G1 := Lib.hid (G1.out.keep hb)
    have B := Lib.hid (stepB B.out hb)
    have IH0 := Lib.hid gi
    clear hb gg gi
    obtain ⟨cc16_00, cc16_01, cc16_02, -, -, -⟩ := P0.out.all
    have ll16_0 := P0.out.lt
    obtain ⟨cc16_10, cc16_11, cc16_12, -, -, -⟩ := KO0.out.all
    have ll16_1 := KO0.out.lt
    obtain ⟨cc16_20, cc16_21, cc16_22, -, -, -⟩ := KO1.out.all
    have ll16_2 := KO1.out.lt
    obtain ⟨cc16_30, cc16_31, cc16_32, -, -, -⟩ := KX0.out.all
    have ll16_3 := KX0.out.lt
    obtain ⟨cc16_40, cc16_41, cc16_42, -, -, -⟩ := KG0.out.all
    have ll16_4 := KG0.out.lt
    obtain ⟨cc16_50, cc16_51, cc16_52, -, -, -⟩ := KG1.out.all
    have ll16_5 := KG1.out.lt
    go_wp2_with fail
    refine (iHerm a0_0 a0_1 (some ⟨gH0, 0, none⟩) xs0.length xs0 _ IH0.out.rd (by omega) (Spot.of _ _)).mono ?_
    rintro e w17 ⟨vH0, vH1, rfl, o0, o1, hd, hb⟩
    rw [ERH.out] at o0 o1 ⊢
    obtain ⟨cH0, tH0, cH1, tH1, i0, i1, xH1, xH2, xH3, xH4, xH5, xH6, xH7⟩ := own_two o0 o1 hd hb.size
    have zH0 := o0.small
    have zH1 := o1.small
    obtain ⟨qH0, qcH0, rfl, -, -⟩ := o0.form
    obtain ⟨qH1, qcH1, rfl, -, -⟩ := o1.form
    have P0 := Lib.hid (P0.out.step hb)
    have O0 := Lib.hid (O0.out.keep hb)
    have O1 := Lib.hid (O1.out.keep hb)
    have KO0 := Lib.hid (KO0.out.step hb)
    have KO1 := Lib.hid (KO1.out.step hb)
    have KX0 := Lib.hid (KX0.out.step hb)
    have KG0 := Lib.hid (KG0.out.step hb)
    have KG1 := Lib.hid (KG1.out.step hb)
    have G0 := Lib.hid (G0.out.keep hb)
    have G1 := Lib.hid (G1.out.keep hb)
    have B := Lib.hid (stepB B.out hb)
    have H0 := Lib.hid i0
    have H1 := Lib.hid i1
    have yH1 : w16.heap.size ≤ cH0 := by simpa using xH1
    have yH4 : w16.heap.size ≤ cH1 := by simpa using xH4
    have sw17 : w16.heap.size ≤ w17.heap.size := by have := hb.size; simpa using this
    clear hb o0 o1 hd i0 i1 xH1 xH4
    have KH0 : Hid (Blk3 ((w17.alloc (.cells #[.int .i64 er.r1, .int .i64 er.c1, .slice qH0 er.zs.length qcH0] 26)).alloc (.cells #[.int .i64 er.r2, .int .i64 er.c2, .slice qH1 er.us.length qcH1] 26)) (w17.heap.size) 26 (.int .i64 er.r1) (.int .i64 er.c1) (.slice qH0 er.zs.length qcH0)) := (Blk3.at_ _ _ _ _ rfl).old _
    have KH1 : Hid (Blk3 ((w17.alloc (.cells #[.int .i64 er.r1, .int .i64 er.c1, .slice qH0 er.zs.length qcH0] 26)).alloc (.cells #[.int .i64 er.r2, .int .i64 er.c2, .slice qH1 er.us.length qcH1] 26)) (w17.heap.size + 1) 26 (.int .i64 er.r2) (.int .i64 er.c2) (.slice qH1 er.us.length qcH1)) := Blk3.at_ _ _ _ _ (by simp)
    obtain ⟨cc17_00, cc17_01, cc17_02, -, -, -⟩ := P0.out.all
    have ll17_0 := P0.out.lt
    obtain ⟨cc17_10, cc17_11, cc17_12, -, -, -⟩ := KO0.out.all
    have ll17_1 := KO0.out.lt
    obtain ⟨cc17_20, cc17_21, cc17_22, -, -, -⟩ := KO1.out.all
    have ll17_2 := KO1.out.lt
    obtain ⟨cc17_30, cc17_31, cc17_32, -, -, -⟩ := KX0.out.all
    have ll17_3 := KX0.out.lt
    obtain ⟨cc17_40, cc17_41, cc17_42, -, -, -⟩ := KG0.out.all
    have ll17_4 := KG0.out.lt
    obtain ⟨cc17_50, cc17_51, cc17_52, -, -, -⟩ := KG1.out.all
    have ll17_5 := KG1.out.lt
    go_wp2_with fail
    refine (eqM_t er.r1 er.c1 qH0 qO0 qcH0 qcO0 er.zs _ ((H0.out.old _).old _).rd.2.1 ((O0.out.old _).old _).rd.2.1 zH0).mono ?_
    rintro e w18 ⟨rfl, hb⟩
    have KH0 := Lib.hid (KH0.out.step hb)
    have KH1 := Lib.hid (KH1.out.step hb)
    have P0 := Lib.hid (((P0.out.old _).old _).step hb)
    have O0 := Lib.hid (((O0.out.old _).old _).keep hb)
    have O1 := Lib.hid (((O1.out.old _).old _).keep hb)
    have KO0 := Lib.hid (((KO0.out.old _).old _).step hb)
    have KO1 := Lib.hid (((KO1.out.old _).old _).step hb)
    have KX0 := Lib.hid (((KX0.out.old _).old _).step hb)
    have KG0 := Lib.hid (((KG0.out.old _).old _).step hb)
    have KG1 := Lib.hid (((KG1.out.old _).old _).step hb)
    have G0 := Lib.hid (((G0.out.old _).old _).keep hb)
    have G1 := Lib.hid (((G1.out.old _).old _).keep hb)
    have H0 := Lib.hid (((H0.out.old _).old _).keep hb)
    have H1 := Lib.hid (((H1.out.old _).old _).keep hb)
    have B := Lib.hid (stepB ((B.out.alloc B.out.size _).alloc (by have := B.out.size; simp; omega) _) hb)
    clear hb
    obtain ⟨cc18_00, cc18_01, cc18_02, -, -, -⟩ := P0.out.all
    have ll18_0 := P0.out.lt
    obtain ⟨cc18_10, cc18_11, cc18_12, -, -, -⟩ := KO0.out.all
    have ll18_1 := KO0.out.lt
    obtain ⟨cc18_20, cc18_21, cc18_22, -, -, -⟩ := KO1.out.all
    have ll18_2 := KO1.out.lt
    obtain ⟨cc18_30, cc18_31, cc18_32, -, -, -⟩ := KX0.out.all
    have ll18_3 := KX0.out.lt
    obtain ⟨cc18_40, cc18_41, cc18_42, -, -, -⟩ := KG0.out.all
    have ll18_4 := KG0.out.lt
    obtain ⟨cc18_50, cc18_51, cc18_52, -, -, -⟩ := KG1.out.all
    have ll18_5 := KG1.out.lt
    obtain ⟨cc18_60, cc18_61, cc18_62, -, -, -⟩ := KH0.out.all
    have ll18_6 := KH0.out.lt
    obtain ⟨cc18_70, cc18_71, cc18_72, -, -, -⟩ := KH1.out.all
    have ll18_7 := KH1.out.lt
    go_wp2_with fail
    refine (eqM_t er.r2 er.c2 qH1 qO1 qcH1 qcO1 er.us _ H1.out.rd.2.1 O1.out.rd.2.1 zH1).mono ?_
    rintro e w19 ⟨rfl, hb⟩
    have P0 := Lib.hid (P0.out.step hb)
    have O0 := Lib.hid (O0.out.keep hb)
    have O1 := Lib.hid (O1.out.keep hb)
    have KO0 := Lib.hid (KO0.out.step hb)
    have KO1 := Lib.hid (KO1.out.step hb)
    have KX0 := Lib.hid (KX0.out.step hb)
    have KG0 := Lib.hid (KG0.out.step hb)
    have KG1 := Lib.hid (KG1.out.step hb)
    have G0 := Lib.hid (G0.out.keep hb)
    have G1 := Lib.hid (G1.out.keep hb)
    have H0 := Lib.hid (H0.out.keep hb)
    have H1 := Lib.hid (H1.out.keep hb)
    have KH0 := Lib.hid (KH0.out.step hb)
    have KH1 := Lib.hid (KH1.out.step hb)
    have B := Lib.hid (stepB B.out hb)
    clear hb
    obtain ⟨cc19_00, cc19_01, cc19_02, -, -, -⟩ := P0.out.all
    have ll19_0 := P0.out.lt
    obtain ⟨cc19_10, cc19_11, cc19_12, -, -, -⟩ := KO0.out.all
    have ll19_1 := KO0.out.lt
    obtain ⟨cc19_20, cc19_21, cc19_22, -, -, -⟩ := KO1.out.all
    have ll19_2 := KO1.out.lt
    obtain ⟨cc19_30, cc19_31, cc19_32, -, -, -⟩ := KX0.out.all
    have ll19_3 := KX0.out.lt
    obtain ⟨cc19_40, cc19_41, cc19_42, -, -, -⟩ := KG0.out.all
    have ll19_4 := KG0.out.lt
    obtain ⟨cc19_50, cc19_51, cc19_52, -, -, -⟩ := KG1.out.all
    have ll19_5 := KG1.out.lt
    obtain ⟨cc19_60, cc19_61, cc19_62, -, -, -⟩ := KH0.out.all
    have ll19_6 := KH0.out.lt
    obtain ⟨cc19_70, cc19_71, cc19_72, -, -, -⟩ := KH1.out.all
    have ll19_7 := KH1.out.lt
    go_wp2_with fail
    refine (heldM er.r1 er.c1 qG0 qcG0 er.zs.length (1) _ G0.out.rd.2.1 zG0 (by omega) (by omega)).mono ?_
    rintro e w20 ⟨rfl, hb⟩
    have P0 := Lib.hid (P0.out.step hb)
    have O0 := Lib.hid (O0.out.keep hb)
    have O1 := Lib.hid (O1.out.keep hb)
    have KO0 := Lib.hid (KO0.out.step hb)
    have KO1 := Lib.hid (KO1.out.step hb)
    have KX0 := Lib.hid (KX0.out.step hb)
    have KG0 := Lib.hid (KG0.out.step hb)
    have KG1 := Lib.hid (KG1.out.step hb)
    have G0 := Lib.hid (G0.out.keep hb)
    have G1 := Lib.hid (G1.out.keep hb)
    have H0 := Lib.hid (H0.out.keep hb)
    have H1 := Lib.hid (H1.out.keep hb)
    have KH0 := Lib.hid (KH0.out.step hb)
    have KH1 := Lib.hid (KH1.out.step hb)
    have B := Lib.hid (stepB B.out hb)
    clear hb
    obtain ⟨cc20_00, cc20_01, cc20_02, -, -, -⟩ := P0.out.all
    have ll20_0 := P0.out.lt
    obtain ⟨cc20_10, cc20_11, cc20_12, -, -, -⟩ := KO0.out.all
    have ll20_1 := KO0.out.lt
    obtain ⟨cc20_20, cc20_21, cc20_22, -, -, -⟩ := KO1.out.all
    have ll20_2 := KO1.out.lt
    obtain ⟨cc20_30, cc20_31, cc20_32, -, -, -⟩ := KX0.out.all
    have ll20_3 := KX0.out.lt
    obtain ⟨cc20_40, cc20_41, cc20_42, -, -, -⟩ := KG0.out.all
    have ll20_4 := KG0.out.lt
    obtain ⟨cc20_50, cc20_51, cc20_52, -, -, -⟩ := KG1.out.all
    have ll20_5 := KG1.out.lt
    obtain ⟨cc20_60, cc20_61, cc20_62, -, -, -⟩ := KH0.out.all
    have ll20_6 := KH0.out.lt
    obtain ⟨cc20_70, cc20_71, cc20_72, -, -, -⟩ := KH1.out.all
    have ll20_7 := KH1.out.lt
    go_wp2_with fail
    refine (heldM er.r2 er.c2 qG1 qcG1 er.us.length (1 + er.zs.length) _ G1.out.rd.2.1 zG1 (by omega) (by omega)).mono ?_
    rintro e w21 ⟨rfl, hb⟩
    have P0 := Lib.hid (P0.out.step hb)
    have O0 := Lib.hid (O0.out.keep hb)
    have O1 := Lib.hid (O1.out.keep hb)
    have KO0 := Lib.hid (KO0.out.step hb)
    have KO1 := Lib.hid (KO1.out.step hb)
    have KX0 := Lib.hid (KX0.out.step hb)
    have KG0 := Lib.hid (KG0.out.step hb)
    have KG1 := Lib.hid (KG1.out.step hb)
    have G0 := Lib.hid (G0.out.keep hb)
    have G1 := Lib.hid (G1.out.keep hb)
    have H0 := Lib.hid (H0.out.keep hb)
    have H1 := Lib.hid (H1.out.keep hb)
    have KH0 := Lib.hid (KH0.out.step hb)
    have KH1 := Lib.hid (KH1.out.step hb)
    have B := Lib.hid (stepB B.out hb)
    clear hb
    obtain ⟨cc21_00, cc21_01, cc21_02, -, -, -⟩ := P0.out.all
    have ll21_0 := P0.out.lt
    obtain ⟨cc21_10, cc21_11, cc21_12, -, -, -⟩ := KO0.out.all
    have ll21_1 := KO0.out.lt
    obtain ⟨cc21_20, cc21_21, cc21_22, -, -, -⟩ := KO1.out.all
    have ll21_2 := KO1.out.lt
    obtain ⟨cc21_30, cc21_31, cc21_32, -, -, -⟩ := KX0.out.all
    have ll21_3 := KX0.out.lt
    obtain ⟨cc21_40, cc21_41, cc21_42, -, -, -⟩ := KG0.out.all
    have ll21_4 := KG0.out.lt
    obtain ⟨cc21_50, cc21_51, cc21_52, -, -, -⟩ := KG1.out.all
    have ll21_5 := KG1.out.lt
    obtain ⟨cc21_60, cc21_61, cc21_62, -, -, -⟩ := KH0.out.all
    have ll21_6 := KH0.out.lt
    obtain ⟨cc21_70, cc21_71, cc21_72, -, -, -⟩ := KH1.out.all
    have ll21_7 := KH1.out.lt
    go_wp2_with fail
    go_ret
    exact ⟨rfl, B.out⟩
  · go_enter Try.func8, Try.ntmps8
    go_wp2_with fail
    refine (szM_f a0_0 a0_1 a0_2 xs0.length cap0_2 (1048576) _ (by omega) (by omega) (by omega)).mono ?_
    rintro e w2 ⟨rfl, hb⟩
    have P0 : Hid (Blk3 w2 w.heap.size 24 (.int .i64 a0_0) (.int .i64 a0_1) (.slice a0_2 xs0.length cap0_2)) := (Blk3.at_ _ _ _ _ rfl).keep hb (by simp)
    have B : Hid (Below w.heap.size w w2) := ((Below.refl _ _).alloc (Nat.le_refl _) _).trans (hb.mono (by simp))
    clear hb
    obtain ⟨cs0_00, cs0_01, cs0_02, -, -, -⟩ := P0.out.all
    go_wp2_with fail
    go_ret
    exact ⟨rfl, B.out⟩

/-! ### The row's step -/
set_option maxRecDepth 100000 in
theorem lifted (os : Os) (started : os.Started) (H : Type) (enc : TypeId × Value → H) :
    ReturnsInHanded {} Try.checked os 8 .any (Rows.fnExactHermiteFormSpec.pre6 enc Try.prog Try.f8 Rows.fnExactHermiteFormRow.domain false) (Rows.fnExactHermiteFormSpec.post enc Try.prog Try.f8 false true false false) := by
  refine returnsInHanded_of_change (C := Try.checked) own started (by kernel_rfl) Try.func8
    (ChangeSpec.witness6 (enc := enc) (C := Try.checked) false ⟨#[], #[.agg #[.int .i64 0, .int .i64 0, .slice none 0 0]], []⟩ 8 (by kernel_rfl) (by kernel_rfl) (by kernel_rfl) (by kernel_rfl)) ?_
  intro W base args ds gs before hval0 hW hcnd _
  have hval : ∀ (j : Nat) t v, Try.f8.params[j]? = some t → args[j]? = some v → Value.okWide Try.prog W .any base t v := hval0
  have hW' := hW
  obtain ⟨p, q, hA0, hV, rfl, hfz, hnd⟩ := hW
  have hA : DataW.TrodAll enc Try.prog W 0 (fun _ => true) true Try.f8.params.toList args.toList ds p := hA0
  rw [Try.params8] at hA hval
  obtain ⟨v0, vs0, d0, ds0, p0, q0, hargs, rfl, rfl, h0, r0⟩ := trodAll_cons hA
  obtain ⟨rfl, rfl, rfl⟩ := trodAll_nil r0
  obtain rfl : args = #[v0] := by cases args; simp_all
  obtain ⟨rfl, rfl⟩ := trodVars_none hV
  have k0 := h0
  have lt0 : ∀ x ∈ p0, x.block < W.heap.size := by obtain ⟨m, hm⟩ := k0; exact DataW.trod_lt m _ _ _ hm
  obtain ⟨c0_0, c0_1, c0_2, y0_0, y0_1, y0_2, m0, rfl, rfl, rfl, hy0_0, hy0_1, hy0_2⟩ := Joins.open_agg3 Try.underlying24 (by kernel_rfl) cells24 (hval 0 24 v0 rfl rfl) h0
  obtain ⟨a0_0, e0_0, rfl, w0_0⟩ := DataW.trod_int Try.underlying3 hy0_0
  simp only [List.cons.injEq, and_true] at e0_0
  subst e0_0
  obtain ⟨a0_1, e0_1, rfl, w0_1⟩ := DataW.trod_int Try.underlying3 hy0_1
  simp only [List.cons.injEq, and_true] at e0_1
  subst e0_1
  obtain ⟨a0_2, len0_2, cap0_2, e0_2⟩ := Joins.slice_form Try.underlying22 hy0_2
  simp only [List.cons.injEq, and_true] at e0_2
  subst e0_2
  obtain ⟨z0_2, w0_2⟩ : ∃ zs, IsRow .i64 W a0_2 len0_2 cap0_2 zs := isRow_of Try.underlying22 Try.underlying3 (by kernel_rfl) hy0_2
  clear hA0 hval0
  refine (walk a0_0 a0_1 a0_2 len0_2 cap0_2 z0_2 W w0_0 w0_1 w0_2).mono fun e W' ⟨he, bel⟩ => ?_
  subst he
  exact ⟨_, rfl, _, _, _, [], _, [], hW', trodAll_mk1 (shut_bool Try.underlying4 _), (trodAll_cons_mk (Below.trod laidOut (by kernel_rfl) (of_decide_eq_true (by kernel_rfl)) k0 bel lt0) trodAll_mk0), rfl, bel.frame _, fun h => by cases h⟩

theorem over : Rows.fnExactHermiteFormRow.holds Try.pinned (OpenSpec.ofChange Rows.fnExactHermiteFormSpec) :=
  OpenClaim.holds_of_wide 8 Try.f8 rfl rfl rfl rfl rfl rfl rfl ⟨rfl, rfl, rfl, rfl, rfl⟩ rfl rfl rfl rfl rfl (by kernel_rfl) Try.func8 (by kernel_rfl)
    (of_decide_eq_true (by kernel_rfl)) (by unfold Func.isWrapper; first | (rw [if_pos (by decide +kernel)]; kernel_rfl) | (rw [if_neg (by decide +kernel)]; exact ⟨rfl, rfl⟩))
    (fun os started H enc _ => lifted os started H enc)

/-- ████ THE STATEMENT ████ -/
theorem proved : Rows.FnExactHermiteFormSaid := over
#print axioms proved
end Go.Proofs.Ytpelnfenfeoeeaa.fnExactHermiteForm
