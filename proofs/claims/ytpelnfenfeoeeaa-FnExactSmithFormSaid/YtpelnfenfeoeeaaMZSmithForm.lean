/-
  Proved: for every matrix, the law FnExactSmithForm returns true: the program's SmithForm answers as the model's, writes into no argument, and its answer owns its memory.
  Conditions: none beyond the row's own (the arguments read as data).
-/
import Derived.Test.YtpelnfenfeoeeaaRows
import Derived.ChangeOld
import Derived.Below
import Derived.Deep.RegionHeld3
import Derived.Deep.DeepCutAuto
import Derived.WalkKit
import Derived.ProofKit
import Derived.OpenShut
import Derived.ShutString
import Derived.Carry
import Derived.Lib.SmallJoins
import Derived.Test.YtpelnfenfeoeeaaPk24
import Derived.Test.YtpelnfenfeoeeaaPk30
import Derived.Test.YtpelnfenfeoeeaaPk31
import Derived.Test.YtpelnfenfeoeeaaPk32

namespace Go.Proofs.Ytpelnfenfeoeeaa.fnExactSmithForm
open Go.ChangeShapes Go.WideShapes Go.ChangeAt Go.RowKit
open Go.ChangeMaps (open_string shut_string)
set_option linter.unusedVariables false

theorem own : ownKnob Try.prog.godebug = none := by kernel_rfl
theorem laidOut : laidOutB Try.prog = true := by kernel_rfl
theorem cells24 : Try.prog.cellsOf 24 = 3 := by kernel_rfl
/-- What the walk is told of a slice of integers that came in: it is nil; or it leads to a row of 'cap' cells, the numbers 'zs' (the first 'len' are its elements), each fitting its kind. -/
def IsRow (k : IntKind) (w : World) (a : Option Addr) (len cap : Nat) (zs : List Int) : Prop :=
  (a = none ∧ len = 0 ∧ cap = 0 ∧ zs = []) ∨
  ∃ x, a = some x ∧ len ≤ cap ∧ cap ≤ maxLen ∧ zs.length = cap ∧ (∀ i, i < zs.length → w.cell? (x.add i) = some (.int k (zs.getD i 0))) ∧ ∀ n ∈ zs, (Lit.int k n).wf = true
theorem isRow_of {H : Type} {enc : TypeId × Value → H} {P : Program} {W : World} {base : Nat} {held : Bool} {t e : TypeId} {k : IntKind} {a : Option Addr} {len cap fuel : Nat} {x : DataW H × List MemPlace}
    (ht : P.underlying t = some (.slice e)) (he : P.underlying e = some (.int k)) (hc : P.cellsOf e = 1) (hf : DataW.trod enc P W base (fun _ => true) held fuel t [.slice a len cap] = some x) : ∃ zs, IsRow k W a len cap zs := by
  rcases open_ints ht he hc hf with ⟨hcs, _⟩ | ⟨x, l, c, zs, hcs, _, hl, hm, hz, _, hcell, hwz⟩
  · simp at hcs
    obtain ⟨rfl, rfl, rfl⟩ := hcs
    exact ⟨[], .inl ⟨rfl, rfl, rfl, rfl⟩⟩
  · simp at hcs
    obtain ⟨rfl, rfl, rfl⟩ := hcs
    exact ⟨zs, .inr ⟨_, rfl, hl, hm, by simpa using hz, hcell, hwz⟩⟩
theorem codeRd {w : World} {a : Option Addr} {len cap : Nat} {zs : List Int} (h : IsRow .i64 w a len cap zs) : ∃ xs : List Int, Rd w a xs ∧ len = xs.length ∧ len ≤ 9223372036854775807 := by
  rcases h with ⟨rfl, rfl, rfl, rfl⟩ | ⟨x, rfl, hl, hm, hz, hcell, hwf⟩
  · exact ⟨[], Rd.nil _ _, rfl, by omega⟩
  · refine ⟨zs.take len, fun i hi => ?_, by simp; omega, by unfold maxLen at hm; omega⟩
    simp only [List.length_take] at hi
    obtain ⟨b, o, rfl, hc⟩ := ints_at hcell (by omega)
    refine ⟨b, o, rfl, ?_⟩
    rw [hc i (by omega)]
    simp [List.getD, show i < len by omega]
theorem ne_s2 {a b : Nat} (h : a < b) : ¬ a = b + 1 + 1 := by omega

theorem own_seat {B : Nat} {w : World} {u : Value} {xs : List Int} (h : Own B w u xs) (hs : B ≤ w.heap.size) : ∃ b t, In b t w u xs ∧ B ≤ b ∧ b ≤ t ∧ t ≤ w.heap.size ∧ ((b = B ∧ t = B) ∨ (t = b + 1 ∧ u.ownBlock = some b)) := by
  rcases h with h | ⟨g, cap, rfl, hB, hi, hl, hc⟩
  · exact ⟨B, B, .inl h, Nat.le_refl _, Nat.le_refl _, hs, .inl ⟨rfl, rfl⟩⟩
  · exact ⟨g, g + 1, .inr ⟨g, cap, rfl, Nat.le_refl _, Nat.lt_succ_self _, hi, hl, hc⟩, hB, Nat.le_succ _, hi.lt, .inr ⟨rfl, rfl⟩⟩
theorem seat_apart {B b1 t1 b2 t2 : Nat} {u v : Value} (hd : ∀ k, u.ownBlock = some k → v.ownBlock ≠ some k) (h1 : B ≤ b1) (h2 : B ≤ b2) (a : (b1 = B ∧ t1 = B) ∨ (t1 = b1 + 1 ∧ u.ownBlock = some b1)) (b : (b2 = B ∧ t2 = B) ∨ (t2 = b2 + 1 ∧ v.ownBlock = some b2)) : t1 ≤ b2 ∨ t2 ≤ b1 := by
  rcases a with ⟨a1, a2⟩ | ⟨a1, a2⟩
  · left; omega
  · rcases b with ⟨c1, c2⟩ | ⟨c1, c2⟩
    · right; omega
    · have : b1 ≠ b2 := fun e => hd b1 a2 (by rw [e]; exact c2)
      omega
theorem own_three {B : Nat} {w : World} {u v x : Value} {xs ys zs : List Int} (h : Own B w u xs) (h' : Own B w v ys) (h'' : Own B w x zs) (hd : ∀ k, u.ownBlock = some k → v.ownBlock ≠ some k) (he : ∀ k, u.ownBlock = some k → x.ownBlock ≠ some k) (hf : ∀ k, v.ownBlock = some k → x.ownBlock ≠ some k) (hs : B ≤ w.heap.size) :
    ∃ b1 t1 b2 t2 b3 t3, In b1 t1 w u xs ∧ In b2 t2 w v ys ∧ In b3 t3 w x zs ∧ B ≤ b1 ∧ b1 ≤ t1 ∧ t1 ≤ w.heap.size ∧ B ≤ b2 ∧ b2 ≤ t2 ∧ t2 ≤ w.heap.size ∧ B ≤ b3 ∧ b3 ≤ t3 ∧ t3 ≤ w.heap.size ∧ (t1 ≤ b2 ∨ t2 ≤ b1) ∧ (t1 ≤ b3 ∨ t3 ≤ b1) ∧ (t2 ≤ b3 ∨ t3 ≤ b2) := by
  obtain ⟨b1, t1, i1, a1, a2, a3, a4⟩ := own_seat h hs
  obtain ⟨b2, t2, i2, c1, c2, c3, c4⟩ := own_seat h' hs
  obtain ⟨b3, t3, i3, d1, d2, d3, d4⟩ := own_seat h'' hs
  exact ⟨b1, t1, b2, t2, b3, t3, i1, i2, i3, a1, a2, a3, c1, c2, c3, d1, d2, d3, seat_apart hd a1 c1 a4 c4, seat_apart he a1 d1 a4 d4, seat_apart hf c1 d1 c4 d4⟩
set_option maxRecDepth 100000 in
set_option maxHeartbeats 8000000 in

theorem walk (a0_0 : Int) (a0_1 : Int) (a0_2 : Option Addr) (len0_2 cap0_2 : Nat) (z0_2 : List Int) (w : World) (w0_0 : (Lit.int .i64 a0_0).wf = true) (w0_1 : (Lit.int .i64 a0_1).wf = true) (w0_2 : IsRow .i64 w a0_2 len0_2 cap0_2 z0_2) :
    Calls Try.prog 3 #[.agg #[.int .i64 a0_0, .int .i64 a0_1, .slice a0_2 len0_2 cap0_2]] w fun e w' => e = .returned (.bool true) ∧ Below w.heap.size w w' := by
  obtain ⟨xs0, hx, rfl, lx0⟩ := codeRd w0_2
  have HX0 := Lib.hid hx
  clear hx w0_2 w0_0 w0_1
  by_cases bx0 : xs0.length ≤ 1048576
  · go_enter Try.func3, Try.ntmps3
    go_wp2_with fail
    refine (szM a0_0 a0_1 a0_2 xs0.length cap0_2 (1048576) _ (by omega) (by omega)).mono ?_
    rintro e w2 ⟨rfl, hb⟩
    have P0 : Hid (Blk3 w2 w.heap.size 24 (.int .i64 a0_0) (.int .i64 a0_1) (.slice a0_2 xs0.length cap0_2)) := (Blk3.at_ _ _ _ _ rfl).keep hb (by simp)
    have B : Hid (Below w.heap.size w w2) := ((Below.refl _ _).alloc (Nat.le_refl _) _).trans (hb.mono (by simp))
    clear hb
    obtain ⟨cc1_00, cc1_01, cc1_02, -, -, -⟩ := P0.out.all
    have ll1_0 := P0.out.lt
    go_wp2_with fail
    obtain ⟨er, her⟩ : ∃ er, smR a0_0 a0_1 xs0 = er := ⟨_, rfl⟩
    have ERH := Lib.hid her
    have ⟨lz0, lz1, lz2⟩ : er.d.zs.length ≤ 600 ∧ er.u.zs.length ≤ 600 ∧ er.v.zs.length ≤ 600 := by rw [← her]; exact smR_zs _ _ _
    clear her
    refine (toM a0_0 a0_1 a0_2 cap0_2 xs0 _ (HX0.out.below B.out) (by omega)).mono ?_
    rintro e w3 ⟨gO0, rfl, gg, gi, hb⟩
    have P0 := Lib.hid (P0.out.step hb)
    have B := Lib.hid (stepB B.out hb)
    have IO0 := Lib.hid gi
    clear hb gg gi
    obtain ⟨cc2_00, cc2_01, cc2_02, -, -, -⟩ := P0.out.all
    have ll2_0 := P0.out.lt
    go_wp2_with fail
    refine (sSmithForm a0_0 a0_1 (some ⟨gO0, 0, none⟩) xs0.length xs0 _ IO0.out.rd (by omega) (Spot.of _ _)).mono ?_
    rintro e w4 ⟨vO0, vO1, vO2, rfl, o0, o1, o2, hd, he, hf, hb⟩
    rw [ERH.out] at o0 o1 o2 ⊢
    obtain ⟨cO0, tO0, cO1, tO1, cO2, tO2, i0, i1, i2, xO1, xO2, xO3, xO4, xO5, xO6, xO7, xO8, xO9, xO10, xO11, xO12⟩ := own_three o0 o1 o2 hd he hf hb.size
    have zO0 := o0.small
    have zO1 := o1.small
    have zO2 := o2.small
    obtain ⟨qO0, qcO0, rfl, -, -⟩ := o0.form
    obtain ⟨qO1, qcO1, rfl, -, -⟩ := o1.form
    obtain ⟨qO2, qcO2, rfl, -, -⟩ := o2.form
    have P0 := Lib.hid (P0.out.step hb)
    have B := Lib.hid (stepB B.out hb)
    have O0 := Lib.hid i0
    have O1 := Lib.hid i1
    have O2 := Lib.hid i2
    have yO1 : w3.heap.size ≤ cO0 := by simpa using xO1
    have yO4 : w3.heap.size ≤ cO1 := by simpa using xO4
    have yO7 : w3.heap.size ≤ cO2 := by simpa using xO7
    have sw4 : w3.heap.size ≤ w4.heap.size := by have := hb.size; simpa using this
    clear hb o0 o1 o2 hd he hf i0 i1 i2 xO1 xO4 xO7
    have KO0 : Hid (Blk3 (((w4.alloc (.cells #[.int .i64 er.d.r, .int .i64 er.d.c, .slice qO0 er.d.zs.length qcO0] 26)).alloc (.cells #[.int .i64 er.u.r, .int .i64 er.u.c, .slice qO1 er.u.zs.length qcO1] 26)).alloc (.cells #[.int .i64 er.v.r, .int .i64 er.v.c, .slice qO2 er.v.zs.length qcO2] 26)) (w4.heap.size) 26 (.int .i64 er.d.r) (.int .i64 er.d.c) (.slice qO0 er.d.zs.length qcO0)) := ((Blk3.at_ _ _ _ _ rfl).old _).old _
    have KO1 : Hid (Blk3 (((w4.alloc (.cells #[.int .i64 er.d.r, .int .i64 er.d.c, .slice qO0 er.d.zs.length qcO0] 26)).alloc (.cells #[.int .i64 er.u.r, .int .i64 er.u.c, .slice qO1 er.u.zs.length qcO1] 26)).alloc (.cells #[.int .i64 er.v.r, .int .i64 er.v.c, .slice qO2 er.v.zs.length qcO2] 26)) (w4.heap.size + 1) 26 (.int .i64 er.u.r) (.int .i64 er.u.c) (.slice qO1 er.u.zs.length qcO1)) := (Blk3.at_ _ _ _ _ (by simp)).old _
    have KO2 : Hid (Blk3 (((w4.alloc (.cells #[.int .i64 er.d.r, .int .i64 er.d.c, .slice qO0 er.d.zs.length qcO0] 26)).alloc (.cells #[.int .i64 er.u.r, .int .i64 er.u.c, .slice qO1 er.u.zs.length qcO1] 26)).alloc (.cells #[.int .i64 er.v.r, .int .i64 er.v.c, .slice qO2 er.v.zs.length qcO2] 26)) (w4.heap.size + 1 + 1) 26 (.int .i64 er.v.r) (.int .i64 er.v.c) (.slice qO2 er.v.zs.length qcO2)) := Blk3.at_ _ _ _ _ (by simp)
    obtain ⟨cc3_00, cc3_01, cc3_02, -, -, -⟩ := P0.out.all
    have ll3_0 := P0.out.lt
    obtain ⟨cf3_00, cf3_01, cf3_02, -, -, -⟩ := (((P0.out.old (.cells #[.int .i64 er.d.r, .int .i64 er.d.c, .slice qO0 er.d.zs.length qcO0] 26)).old (.cells #[.int .i64 er.u.r, .int .i64 er.u.c, .slice qO1 er.u.zs.length qcO1] 26)).old (.cells #[.int .i64 er.v.r, .int .i64 er.v.c, .slice qO2 er.v.zs.length qcO2] 26)).all
    go_wp2_with fail
    refine (toM a0_0 a0_1 a0_2 cap0_2 xs0 _ (HX0.out.below (((B.out.alloc B.out.size _).alloc (by have := B.out.size; simp; omega) _).alloc (by have := B.out.size; simp; omega) _)) (by omega)).mono ?_
    rintro e w5 ⟨gx0, rfl, ggx, gix, hb⟩
    have KO0 := Lib.hid (KO0.out.step hb)
    have KO1 := Lib.hid (KO1.out.step hb)
    have KO2 := Lib.hid (KO2.out.step hb)
    have P0 := Lib.hid ((((P0.out.old _).old _).old _).step hb)
    have O0 := Lib.hid ((((O0.out.old _).old _).old _).keep hb)
    have O1 := Lib.hid ((((O1.out.old _).old _).old _).keep hb)
    have O2 := Lib.hid ((((O2.out.old _).old _).old _).keep hb)
    have B := Lib.hid (stepB (((B.out.alloc B.out.size _).alloc (by have := B.out.size; simp; omega) _).alloc (by have := B.out.size; simp; omega) _) hb)
    have X0 : Hid (In (w4.heap.size + 3) w5.heap.size w5 (.slice (some ⟨gx0, 0, none⟩) xs0.length xs0.length) xs0) := In.of_new (by simpa using ggx) gix (by omega)
    have sw5 : (w4.heap.size + 3) ≤ w5.heap.size := by have := hb.size; simpa using this
    have KX0 : Hid (Blk3 (w5.alloc (.cells #[.int .i64 a0_0, .int .i64 a0_1, .slice (some ⟨gx0, 0, none⟩) xs0.length xs0.length] 26)) w5.heap.size 26 (.int .i64 a0_0) (.int .i64 a0_1) (.slice (some ⟨gx0, 0, none⟩) xs0.length xs0.length)) := Blk3.at_ _ _ _ _ rfl
    clear hb ggx gix
    obtain ⟨cc4_00, cc4_01, cc4_02, -, -, -⟩ := P0.out.all
    have ll4_0 := P0.out.lt
    obtain ⟨cc4_10, cc4_11, cc4_12, -, -, -⟩ := KO0.out.all
    have ll4_1 := KO0.out.lt
    obtain ⟨cc4_20, cc4_21, cc4_22, -, -, -⟩ := KO1.out.all
    have ll4_2 := KO1.out.lt
    obtain ⟨cc4_30, cc4_31, cc4_32, -, -, -⟩ := KO2.out.all
    have ll4_3 := KO2.out.lt
    go_wp2_with fail
    refine (iSmithForm a0_0 a0_1 (some ⟨gx0, 0, none⟩) xs0.length xs0 _ (X0.out.old _).rd.2.1 (by omega)).mono ?_
    rintro e w6 ⟨vG0, vG1, vG2, rfl, o0, o1, o2, hd, he, hf, hb⟩
    rw [ERH.out] at o0 o1 o2 ⊢
    obtain ⟨cG0, tG0, cG1, tG1, cG2, tG2, i0, i1, i2, xG1, xG2, xG3, xG4, xG5, xG6, xG7, xG8, xG9, xG10, xG11, xG12⟩ := own_three o0 o1 o2 hd he hf hb.size
    have zG0 := o0.small
    have zG1 := o1.small
    have zG2 := o2.small
    obtain ⟨qG0, qcG0, rfl, -, -⟩ := o0.form
    obtain ⟨qG1, qcG1, rfl, -, -⟩ := o1.form
    obtain ⟨qG2, qcG2, rfl, -, -⟩ := o2.form
    have KX0 := Lib.hid (KX0.out.step hb)
    have P0 := Lib.hid ((P0.out.old _).step hb)
    have O0 := Lib.hid ((O0.out.old _).keep hb)
    have O1 := Lib.hid ((O1.out.old _).keep hb)
    have O2 := Lib.hid ((O2.out.old _).keep hb)
    have KO0 := Lib.hid ((KO0.out.old _).step hb)
    have KO1 := Lib.hid ((KO1.out.old _).step hb)
    have KO2 := Lib.hid ((KO2.out.old _).step hb)
    have X0 := Lib.hid ((X0.out.old _).keep hb)
    have B := Lib.hid (stepB (B.out.alloc B.out.size _) hb)
    have G0 := Lib.hid i0
    have G1 := Lib.hid i1
    have G2 := Lib.hid i2
    have yG1 : (w5.heap.size + 1) ≤ cG0 := by simpa using xG1
    have yG4 : (w5.heap.size + 1) ≤ cG1 := by simpa using xG4
    have yG7 : (w5.heap.size + 1) ≤ cG2 := by simpa using xG7
    have sw6 : (w5.heap.size + 1) ≤ w6.heap.size := by have := hb.size; simpa using this
    clear hb o0 o1 o2 hd he hf i0 i1 i2 xG1 xG4 xG7
    have KG0 : Hid (Blk3 (((w6.alloc (.cells #[.int .i64 er.d.r, .int .i64 er.d.c, .slice qG0 er.d.zs.length qcG0] 26)).alloc (.cells #[.int .i64 er.u.r, .int .i64 er.u.c, .slice qG1 er.u.zs.length qcG1] 26)).alloc (.cells #[.int .i64 er.v.r, .int .i64 er.v.c, .slice qG2 er.v.zs.length qcG2] 26)) (w6.heap.size) 26 (.int .i64 er.d.r) (.int .i64 er.d.c) (.slice qG0 er.d.zs.length qcG0)) := ((Blk3.at_ _ _ _ _ rfl).old _).old _
    have KG1 : Hid (Blk3 (((w6.alloc (.cells #[.int .i64 er.d.r, .int .i64 er.d.c, .slice qG0 er.d.zs.length qcG0] 26)).alloc (.cells #[.int .i64 er.u.r, .int .i64 er.u.c, .slice qG1 er.u.zs.length qcG1] 26)).alloc (.cells #[.int .i64 er.v.r, .int .i64 er.v.c, .slice qG2 er.v.zs.length qcG2] 26)) (w6.heap.size + 1) 26 (.int .i64 er.u.r) (.int .i64 er.u.c) (.slice qG1 er.u.zs.length qcG1)) := (Blk3.at_ _ _ _ _ (by simp)).old _
    have KG2 : Hid (Blk3 (((w6.alloc (.cells #[.int .i64 er.d.r, .int .i64 er.d.c, .slice qG0 er.d.zs.length qcG0] 26)).alloc (.cells #[.int .i64 er.u.r, .int .i64 er.u.c, .slice qG1 er.u.zs.length qcG1] 26)).alloc (.cells #[.int .i64 er.v.r, .int .i64 er.v.c, .slice qG2 er.v.zs.length qcG2] 26)) (w6.heap.size + 1 + 1) 26 (.int .i64 er.v.r) (.int .i64 er.v.c) (.slice qG2 er.v.zs.length qcG2)) := Blk3.at_ _ _ _ _ (by simp)
    obtain ⟨cc5_00, cc5_01, cc5_02, -, -, -⟩ := P0.out.all
    have ll5_0 := P0.out.lt
    obtain ⟨cf5_00, cf5_01, cf5_02, -, -, -⟩ := (((P0.out.old (.cells #[.int .i64 er.d.r, .int .i64 er.d.c, .slice qG0 er.d.zs.length qcG0] 26)).old (.cells #[.int .i64 er.u.r, .int .i64 er.u.c, .slice qG1 er.u.zs.length qcG1] 26)).old (.cells #[.int .i64 er.v.r, .int .i64 er.v.c, .slice qG2 er.v.zs.length qcG2] 26)).all
    obtain ⟨cc5_10, cc5_11, cc5_12, -, -, -⟩ := KO0.out.all
    have ll5_1 := KO0.out.lt
    obtain ⟨cf5_10, cf5_11, cf5_12, -, -, -⟩ := (((KO0.out.old (.cells #[.int .i64 er.d.r, .int .i64 er.d.c, .slice qG0 er.d.zs.length qcG0] 26)).old (.cells #[.int .i64 er.u.r, .int .i64 er.u.c, .slice qG1 er.u.zs.length qcG1] 26)).old (.cells #[.int .i64 er.v.r, .int .i64 er.v.c, .slice qG2 er.v.zs.length qcG2] 26)).all
    obtain ⟨cc5_20, cc5_21, cc5_22, -, -, -⟩ := KO1.out.all
    have ll5_2 := KO1.out.lt
    obtain ⟨cf5_20, cf5_21, cf5_22, -, -, -⟩ := (((KO1.out.old (.cells #[.int .i64 er.d.r, .int .i64 er.d.c, .slice qG0 er.d.zs.length qcG0] 26)).old (.cells #[.int .i64 er.u.r, .int .i64 er.u.c, .slice qG1 er.u.zs.length qcG1] 26)).old (.cells #[.int .i64 er.v.r, .int .i64 er.v.c, .slice qG2 er.v.zs.length qcG2] 26)).all
    obtain ⟨cc5_30, cc5_31, cc5_32, -, -, -⟩ := KO2.out.all
    have ll5_3 := KO2.out.lt
    obtain ⟨cf5_30, cf5_31, cf5_32, -, -, -⟩ := (((KO2.out.old (.cells #[.int .i64 er.d.r, .int .i64 er.d.c, .slice qG0 er.d.zs.length qcG0] 26)).old (.cells #[.int .i64 er.u.r, .int .i64 er.u.c, .slice qG1 er.u.zs.length qcG1] 26)).old (.cells #[.int .i64 er.v.r, .int .i64 er.v.c, .slice qG2 er.v.zs.length qcG2] 26)).all
    obtain ⟨cc5_40, cc5_41, cc5_42, -, -, -⟩ := KX0.out.all
    have ll5_4 := KX0.out.lt
    obtain ⟨cf5_40, cf5_41, cf5_42, -, -, -⟩ := (((KX0.out.old (.cells #[.int .i64 er.d.r, .int .i64 er.d.c, .slice qG0 er.d.zs.length qcG0] 26)).old (.cells #[.int .i64 er.u.r, .int .i64 er.u.c, .slice qG1 er.u.zs.length qcG1] 26)).old (.cells #[.int .i64 er.v.r, .int .i64 er.v.c, .slice qG2 er.v.zs.length qcG2] 26)).all
    go_wp2_with fail
    refine (eqM_t er.d.r er.d.c qG0 qO0 qcG0 qcO0 er.d.zs _ (((G0.out.old _).old _).old _).rd.2.1 (((O0.out.old _).old _).old _).rd.2.1 zG0).mono ?_
    rintro e w7 ⟨rfl, hb⟩
    have KG0 := Lib.hid (KG0.out.step hb)
    have KG1 := Lib.hid (KG1.out.step hb)
    have KG2 := Lib.hid (KG2.out.step hb)
    have P0 := Lib.hid ((((P0.out.old _).old _).old _).step hb)
    have O0 := Lib.hid ((((O0.out.old _).old _).old _).keep hb)
    have O1 := Lib.hid ((((O1.out.old _).old _).old _).keep hb)
    have O2 := Lib.hid ((((O2.out.old _).old _).old _).keep hb)
    have KO0 := Lib.hid ((((KO0.out.old _).old _).old _).step hb)
    have KO1 := Lib.hid ((((KO1.out.old _).old _).old _).step hb)
    have KO2 := Lib.hid ((((KO2.out.old _).old _).old _).step hb)
    have X0 := Lib.hid ((((X0.out.old _).old _).old _).keep hb)
    have KX0 := Lib.hid ((((KX0.out.old _).old _).old _).step hb)
    have G0 := Lib.hid ((((G0.out.old _).old _).old _).keep hb)
    have G1 := Lib.hid ((((G1.out.old _).old _).old _).keep hb)
    have G2 := Lib.hid ((((G2.out.old _).old _).old _).keep hb)
    have B := Lib.hid (stepB (((B.out.alloc B.out.size _).alloc (by have := B.out.size; simp; omega) _).alloc (by have := B.out.size; simp; omega) _) hb)
    clear hb
    obtain ⟨cc6_00, cc6_01, cc6_02, -, -, -⟩ := P0.out.all
    have ll6_0 := P0.out.lt
    obtain ⟨cc6_10, cc6_11, cc6_12, -, -, -⟩ := KO0.out.all
    have ll6_1 := KO0.out.lt
    obtain ⟨cc6_20, cc6_21, cc6_22, -, -, -⟩ := KO1.out.all
    have ll6_2 := KO1.out.lt
    obtain ⟨cc6_30, cc6_31, cc6_32, -, -, -⟩ := KO2.out.all
    have ll6_3 := KO2.out.lt
    obtain ⟨cc6_40, cc6_41, cc6_42, -, -, -⟩ := KX0.out.all
    have ll6_4 := KX0.out.lt
    obtain ⟨cc6_50, cc6_51, cc6_52, -, -, -⟩ := KG0.out.all
    have ll6_5 := KG0.out.lt
    obtain ⟨cc6_60, cc6_61, cc6_62, -, -, -⟩ := KG1.out.all
    have ll6_6 := KG1.out.lt
    obtain ⟨cc6_70, cc6_71, cc6_72, -, -, -⟩ := KG2.out.all
    have ll6_7 := KG2.out.lt
    go_wp2_with fail
    refine (eqM_t er.u.r er.u.c qG1 qO1 qcG1 qcO1 er.u.zs _ G1.out.rd.2.1 O1.out.rd.2.1 zG1).mono ?_
    rintro e w8 ⟨rfl, hb⟩
    have P0 := Lib.hid (P0.out.step hb)
    have O0 := Lib.hid (O0.out.keep hb)
    have O1 := Lib.hid (O1.out.keep hb)
    have O2 := Lib.hid (O2.out.keep hb)
    have KO0 := Lib.hid (KO0.out.step hb)
    have KO1 := Lib.hid (KO1.out.step hb)
    have KO2 := Lib.hid (KO2.out.step hb)
    have X0 := Lib.hid (X0.out.keep hb)
    have KX0 := Lib.hid (KX0.out.step hb)
    have G0 := Lib.hid (G0.out.keep hb)
    have G1 := Lib.hid (G1.out.keep hb)
    have G2 := Lib.hid (G2.out.keep hb)
    have KG0 := Lib.hid (KG0.out.step hb)
    have KG1 := Lib.hid (KG1.out.step hb)
    have KG2 := Lib.hid (KG2.out.step hb)
    have B := Lib.hid (stepB B.out hb)
    clear hb
    obtain ⟨cc7_00, cc7_01, cc7_02, -, -, -⟩ := P0.out.all
    have ll7_0 := P0.out.lt
    obtain ⟨cc7_10, cc7_11, cc7_12, -, -, -⟩ := KO0.out.all
    have ll7_1 := KO0.out.lt
    obtain ⟨cc7_20, cc7_21, cc7_22, -, -, -⟩ := KO1.out.all
    have ll7_2 := KO1.out.lt
    obtain ⟨cc7_30, cc7_31, cc7_32, -, -, -⟩ := KO2.out.all
    have ll7_3 := KO2.out.lt
    obtain ⟨cc7_40, cc7_41, cc7_42, -, -, -⟩ := KX0.out.all
    have ll7_4 := KX0.out.lt
    obtain ⟨cc7_50, cc7_51, cc7_52, -, -, -⟩ := KG0.out.all
    have ll7_5 := KG0.out.lt
    obtain ⟨cc7_60, cc7_61, cc7_62, -, -, -⟩ := KG1.out.all
    have ll7_6 := KG1.out.lt
    obtain ⟨cc7_70, cc7_71, cc7_72, -, -, -⟩ := KG2.out.all
    have ll7_7 := KG2.out.lt
    go_wp2_with fail
    refine (eqM_t er.v.r er.v.c qG2 qO2 qcG2 qcO2 er.v.zs _ G2.out.rd.2.1 O2.out.rd.2.1 zG2).mono ?_
    rintro e w9 ⟨rfl, hb⟩
    have P0 := Lib.hid (P0.out.step hb)
    have O0 := Lib.hid (O0.out.keep hb)
    have O1 := Lib.hid (O1.out.keep hb)
    have O2 := Lib.hid (O2.out.keep hb)
    have KO0 := Lib.hid (KO0.out.step hb)
    have KO1 := Lib.hid (KO1.out.step hb)
    have KO2 := Lib.hid (KO2.out.step hb)
    have X0 := Lib.hid (X0.out.keep hb)
    have KX0 := Lib.hid (KX0.out.step hb)
    have G0 := Lib.hid (G0.out.keep hb)
    have G1 := Lib.hid (G1.out.keep hb)
    have G2 := Lib.hid (G2.out.keep hb)
    have KG0 := Lib.hid (KG0.out.step hb)
    have KG1 := Lib.hid (KG1.out.step hb)
    have KG2 := Lib.hid (KG2.out.step hb)
    have B := Lib.hid (stepB B.out hb)
    clear hb
    obtain ⟨cc8_00, cc8_01, cc8_02, -, -, -⟩ := P0.out.all
    have ll8_0 := P0.out.lt
    obtain ⟨cc8_10, cc8_11, cc8_12, -, -, -⟩ := KO0.out.all
    have ll8_1 := KO0.out.lt
    obtain ⟨cc8_20, cc8_21, cc8_22, -, -, -⟩ := KO1.out.all
    have ll8_2 := KO1.out.lt
    obtain ⟨cc8_30, cc8_31, cc8_32, -, -, -⟩ := KO2.out.all
    have ll8_3 := KO2.out.lt
    obtain ⟨cc8_40, cc8_41, cc8_42, -, -, -⟩ := KX0.out.all
    have ll8_4 := KX0.out.lt
    obtain ⟨cc8_50, cc8_51, cc8_52, -, -, -⟩ := KG0.out.all
    have ll8_5 := KG0.out.lt
    obtain ⟨cc8_60, cc8_61, cc8_62, -, -, -⟩ := KG1.out.all
    have ll8_6 := KG1.out.lt
    obtain ⟨cc8_70, cc8_71, cc8_72, -, -, -⟩ := KG2.out.all
    have ll8_7 := KG2.out.lt
    go_wp2_with fail
    refine wp_region_held_drew (S := fun w' => Below w9.heap.size w9 w') (by kernel_rfl) (Below.refl _ _).drew (fun hH => ?_)
    refine wpAnyH_take (i := 0) (v := ?_) (by simp only [List.getElem?_toArray, List.getElem?_cons_zero]; rfl) (by kernel_rfl) (by kernel_rfl) (by kernel_rfl) (by exact fun _ _ _ h => h) (Or.inl ⟨by rfl, ?_⟩) hH ?_
    rotate_left
    · (intro wS hS; (try dsimp only at hS); obtain ⟨k1, k2, k3, k4, k5, k6⟩ := six KX0.out P0.out hS; go_simp; try rfl)
    try simp only [Act.put, List.setIfInBounds_toArray, List.set_cons_zero, List.set_cons_succ]
    refine wpAnyH_take (i := 1) (v := ?_) (by simp only [List.getElem?_toArray, List.getElem?_cons_succ, List.getElem?_cons_zero]; rfl) (by kernel_rfl) (by kernel_rfl) (by kernel_rfl) (by exact fun _ _ _ h => h) (Or.inl ⟨by rfl, ?_⟩) hH ?_
    rotate_left
    · (intro wS hS; (try dsimp only at hS); obtain ⟨k1, k2, k3, k4, k5, k6⟩ := six KX0.out P0.out hS; go_simp; try rfl)
    try simp only [Act.put, List.setIfInBounds_toArray, List.set_cons_zero, List.set_cons_succ]
    refine wpAnyH_ready (rs := [2]) (by kernel_rfl) (by simp) ?_
    refine AllReadyH.cons (by simp only [List.getElem?_toArray, List.getElem?_cons_succ, List.getElem?_cons_zero]; rfl) (fun K hK => ?_) AllReadyH.nil
    go_simp
    (with_reducible refine (toM a0_0 a0_1 a0_2 cap0_2 xs0 _ (HX0.out.below (stepB B.out hH)) (by omega)).mono ?_)
    rintro e v30 ⟨g30, rfl, gg30, gi30, hb30⟩
    have I30 := Lib.hid gi30
    clear gi30 gg30
    try dsimp only
    refine hK.out _ _ ?_ (fun hH2 => ?_)
    · exact hH.trans (hb30.mono hH.size)
    clear hK K hH
    have hH := hH2
    clear hH2
    try simp only [Act.put, List.setIfInBounds_toArray, List.set_cons_zero, List.set_cons_succ]
    refine wpAnyH_ready (rs := [3]) (by kernel_rfl) (by simp) ?_
    refine AllReadyH.cons (by simp only [List.getElem?_toArray, List.getElem?_cons_succ, List.getElem?_cons_zero]; rfl) (fun K hK => ?_) AllReadyH.nil
    go_simp
    (with_reducible refine (eqM_t a0_0 a0_1 (some ⟨gx0, 0, none⟩) (some ⟨g30, 0, none⟩) xs0.length xs0.length xs0 _ (X0.out.keep hH).rd.2.1 I30.out.rd (by omega)).mono ?_)
    rintro e v31 ⟨rfl, hb31⟩
    try dsimp only
    refine hK.out _ _ ?_ (fun hH2 => ?_)
    · exact hH.trans (hb31.mono hH.size)
    clear hK K hH
    have hH := hH2
    clear hH2
    try simp only [Act.put, List.setIfInBounds_toArray, List.set_cons_zero, List.set_cons_succ]
    refine wpAnyH_take (i := 4) (v := ?_) (by simp only [List.getElem?_toArray, List.getElem?_cons_succ, List.getElem?_cons_zero]; rfl) (by kernel_rfl) (by kernel_rfl) (by kernel_rfl) (by exact fun _ _ _ h => h) (Or.inl ⟨by rfl, ?_⟩) hH ?_
    rotate_left
    · (intro wS hS; clear hS; go_simp; try rfl)
    try simp only [Act.put, List.setIfInBounds_toArray, List.set_cons_zero, List.set_cons_succ]
    refine wpAnyH_done (by kernel_rfl) ?_ _
    have hb := hH
    clear hH hb30 hb31
    have P0 := Lib.hid (P0.out.step hb)
    have O0 := Lib.hid (O0.out.keep hb)
    have O1 := Lib.hid (O1.out.keep hb)
    have O2 := Lib.hid (O2.out.keep hb)
    have KO0 := Lib.hid (KO0.out.step hb)
    have KO1 := Lib.hid (KO1.out.step hb)
    have KO2 := Lib.hid (KO2.out.step hb)
    have X0 := Lib.hid (X0.out.keep hb)
    have KX0 := Lib.hid (KX0.out.step hb)
    have G0 := Lib.hid (G0.out.keep hb)
    have G1 := Lib.hid (G1.out.keep hb)
    have G2 := Lib.hid (G2.out.keep hb)
    have KG0 := Lib.hid (KG0.out.step hb)
    have KG1 := Lib.hid (KG1.out.step hb)
    have KG2 := Lib.hid (KG2.out.step hb)
    have B := Lib.hid (stepB B.out hb)
    clear hb I30
    obtain ⟨cc9_00, cc9_01, cc9_02, -, -, -⟩ := P0.out.all
    have ll9_0 := P0.out.lt
    obtain ⟨cc9_10, cc9_11, cc9_12, -, -, -⟩ := KO0.out.all
    have ll9_1 := KO0.out.lt
    obtain ⟨cc9_20, cc9_21, cc9_22, -, -, -⟩ := KO1.out.all
    have ll9_2 := KO1.out.lt
    obtain ⟨cc9_30, cc9_31, cc9_32, -, -, -⟩ := KO2.out.all
    have ll9_3 := KO2.out.lt
    obtain ⟨cc9_40, cc9_41, cc9_42, -, -, -⟩ := KX0.out.all
    have ll9_4 := KX0.out.lt
    obtain ⟨cc9_50, cc9_51, cc9_52, -, -, -⟩ := KG0.out.all
    have ll9_5 := KG0.out.lt
    obtain ⟨cc9_60, cc9_61, cc9_62, -, -, -⟩ := KG1.out.all
    have ll9_6 := KG1.out.lt
    obtain ⟨cc9_70, cc9_71, cc9_72, -, -, -⟩ := KG2.out.all
    have ll9_7 := KG2.out.lt
    go_wp2_with fail
    refine (markIn a0_0 a0_1 (some ⟨gx0, 0, none⟩) xs0.length xs0.length xs0 (1) _ X0.out (by omega) (by omega)).mono ?_
    rintro e w10 ⟨rfl, inn, hc⟩
    have P0 := Lib.hid (P0.out.chg hc (by omega))
    have O0 := Lib.hid (O0.out.chg hc (by omega))
    have O1 := Lib.hid (O1.out.chg hc (by omega))
    have O2 := Lib.hid (O2.out.chg hc (by omega))
    have KO0 := Lib.hid (KO0.out.chg hc (by omega))
    have KO1 := Lib.hid (KO1.out.chg hc (by omega))
    have KO2 := Lib.hid (KO2.out.chg hc (by omega))
    have KX0 := Lib.hid (KX0.out.chg hc (by omega))
    have G0 := Lib.hid (G0.out.chg hc (by omega))
    have G1 := Lib.hid (G1.out.chg hc (by omega))
    have G2 := Lib.hid (G2.out.chg hc (by omega))
    have KG0 := Lib.hid (KG0.out.chg hc (by omega))
    have KG1 := Lib.hid (KG1.out.chg hc (by omega))
    have KG2 := Lib.hid (KG2.out.chg hc (by omega))
    have B := Lib.hid (Below.chg B.out hc (by omega) B.out.size)
    have X0 := Lib.hid inn
    clear hc inn
    obtain ⟨cc10_00, cc10_01, cc10_02, -, -, -⟩ := P0.out.all
    have ll10_0 := P0.out.lt
    obtain ⟨cc10_10, cc10_11, cc10_12, -, -, -⟩ := KO0.out.all
    have ll10_1 := KO0.out.lt
    obtain ⟨cc10_20, cc10_21, cc10_22, -, -, -⟩ := KO1.out.all
    have ll10_2 := KO1.out.lt
    obtain ⟨cc10_30, cc10_31, cc10_32, -, -, -⟩ := KO2.out.all
    have ll10_3 := KO2.out.lt
    obtain ⟨cc10_40, cc10_41, cc10_42, -, -, -⟩ := KX0.out.all
    have ll10_4 := KX0.out.lt
    obtain ⟨cc10_50, cc10_51, cc10_52, -, -, -⟩ := KG0.out.all
    have ll10_5 := KG0.out.lt
    obtain ⟨cc10_60, cc10_61, cc10_62, -, -, -⟩ := KG1.out.all
    have ll10_6 := KG1.out.lt
    obtain ⟨cc10_70, cc10_71, cc10_72, -, -, -⟩ := KG2.out.all
    have ll10_7 := KG2.out.lt
    go_wp2_with fail
    refine (eqM_t er.d.r er.d.c qG0 qO0 qcG0 qcO0 er.d.zs _ G0.out.rd.2.1 O0.out.rd.2.1 zG0).mono ?_
    rintro e w11 ⟨rfl, hb⟩
    have P0 := Lib.hid (P0.out.step hb)
    have O0 := Lib.hid (O0.out.keep hb)
    have O1 := Lib.hid (O1.out.keep hb)
    have O2 := Lib.hid (O2.out.keep hb)
    have KO0 := Lib.hid (KO0.out.step hb)
    have KO1 := Lib.hid (KO1.out.step hb)
    have KO2 := Lib.hid (KO2.out.step hb)
    have KX0 := Lib.hid (KX0.out.step hb)
    have G0 := Lib.hid (G0.out.keep hb)
    have G1 := Lib.hid (G1.out.keep hb)
    have G2 := Lib.hid (G2.out.keep hb)
    have KG0 := Lib.hid (KG0.out.step hb)
    have KG1 := Lib.hid (KG1.out.step hb)
    have KG2 := Lib.hid (KG2.out.step hb)
    have B := Lib.hid (stepB B.out hb)
    clear hb
    obtain ⟨cc11_00, cc11_01, cc11_02, -, -, -⟩ := P0.out.all
    have ll11_0 := P0.out.lt
    obtain ⟨cc11_10, cc11_11, cc11_12, -, -, -⟩ := KO0.out.all
    have ll11_1 := KO0.out.lt
    obtain ⟨cc11_20, cc11_21, cc11_22, -, -, -⟩ := KO1.out.all
    have ll11_2 := KO1.out.lt
    obtain ⟨cc11_30, cc11_31, cc11_32, -, -, -⟩ := KO2.out.all
    have ll11_3 := KO2.out.lt
    obtain ⟨cc11_40, cc11_41, cc11_42, -, -, -⟩ := KX0.out.all
    have ll11_4 := KX0.out.lt
    obtain ⟨cc11_50, cc11_51, cc11_52, -, -, -⟩ := KG0.out.all
    have ll11_5 := KG0.out.lt
    obtain ⟨cc11_60, cc11_61, cc11_62, -, -, -⟩ := KG1.out.all
    have ll11_6 := KG1.out.lt
    obtain ⟨cc11_70, cc11_71, cc11_72, -, -, -⟩ := KG2.out.all
    have ll11_7 := KG2.out.lt
    go_wp2_with fail
    refine (eqM_t er.u.r er.u.c qG1 qO1 qcG1 qcO1 er.u.zs _ G1.out.rd.2.1 O1.out.rd.2.1 zG1).mono ?_
    rintro e w12 ⟨rfl, hb⟩
    have P0 := Lib.hid (P0.out.step hb)
    have O0 := Lib.hid (O0.out.keep hb)
    have O1 := Lib.hid (O1.out.keep hb)
    have O2 := Lib.hid (O2.out.keep hb)
    have KO0 := Lib.hid (KO0.out.step hb)
    have KO1 := Lib.hid (KO1.out.step hb)
    have KO2 := Lib.hid (KO2.out.step hb)
    have KX0 := Lib.hid (KX0.out.step hb)
    have G0 := Lib.hid (G0.out.keep hb)
    have G1 := Lib.hid (G1.out.keep hb)
    have G2 := Lib.hid (G2.out.keep hb)
    have KG0 := Lib.hid (KG0.out.step hb)
    have KG1 := Lib.hid (KG1.out.step hb)
    have KG2 := Lib.hid (KG2.out.step hb)
    have B := Lib.hid (stepB B.out hb)
    clear hb
    obtain ⟨cc12_00, cc12_01, cc12_02, -, -, -⟩ := P0.out.all
    have ll12_0 := P0.out.lt
    obtain ⟨cc12_10, cc12_11, cc12_12, -, -, -⟩ := KO0.out.all
    have ll12_1 := KO0.out.lt
    obtain ⟨cc12_20, cc12_21, cc12_22, -, -, -⟩ := KO1.out.all
    have ll12_2 := KO1.out.lt
    obtain ⟨cc12_30, cc12_31, cc12_32, -, -, -⟩ := KO2.out.all
    have ll12_3 := KO2.out.lt
    obtain ⟨cc12_40, cc12_41, cc12_42, -, -, -⟩ := KX0.out.all
    have ll12_4 := KX0.out.lt
    obtain ⟨cc12_50, cc12_51, cc12_52, -, -, -⟩ := KG0.out.all
    have ll12_5 := KG0.out.lt
    obtain ⟨cc12_60, cc12_61, cc12_62, -, -, -⟩ := KG1.out.all
    have ll12_6 := KG1.out.lt
    obtain ⟨cc12_70, cc12_71, cc12_72, -, -, -⟩ := KG2.out.all
    have ll12_7 := KG2.out.lt
    go_wp2_with fail
    refine (eqM_t er.v.r er.v.c qG2 qO2 qcG2 qcO2 er.v.zs _ G2.out.rd.2.1 O2.out.rd.2.1 zG2).mono ?_
    rintro e w13 ⟨rfl, hb⟩
    have P0 := Lib.hid (P0.out.step hb)
    have O0 := Lib.hid (O0.out.keep hb)
    have O1 := Lib.hid (O1.out.keep hb)
    have O2 := Lib.hid (O2.out.keep hb)
    have KO0 := Lib.hid (KO0.out.step hb)
    have KO1 := Lib.hid (KO1.out.step hb)
    have KO2 := Lib.hid (KO2.out.step hb)
    have KX0 := Lib.hid (KX0.out.step hb)
    have G0 := Lib.hid (G0.out.keep hb)
    have G1 := Lib.hid (G1.out.keep hb)
    have G2 := Lib.hid (G2.out.keep hb)
    have KG0 := Lib.hid (KG0.out.step hb)
    have KG1 := Lib.hid (KG1.out.step hb)
    have KG2 := Lib.hid (KG2.out.step hb)
    have B := Lib.hid (stepB B.out hb)
    clear hb
    obtain ⟨cc13_00, cc13_01, cc13_02, -, -, -⟩ := P0.out.all
    have ll13_0 := P0.out.lt
    obtain ⟨cc13_10, cc13_11, cc13_12, -, -, -⟩ := KO0.out.all
    have ll13_1 := KO0.out.lt
    obtain ⟨cc13_20, cc13_21, cc13_22, -, -, -⟩ := KO1.out.all
    have ll13_2 := KO1.out.lt
    obtain ⟨cc13_30, cc13_31, cc13_32, -, -, -⟩ := KO2.out.all
    have ll13_3 := KO2.out.lt
    obtain ⟨cc13_40, cc13_41, cc13_42, -, -, -⟩ := KX0.out.all
    have ll13_4 := KX0.out.lt
    obtain ⟨cc13_50, cc13_51, cc13_52, -, -, -⟩ := KG0.out.all
    have ll13_5 := KG0.out.lt
    obtain ⟨cc13_60, cc13_61, cc13_62, -, -, -⟩ := KG1.out.all
    have ll13_6 := KG1.out.lt
    obtain ⟨cc13_70, cc13_71, cc13_72, -, -, -⟩ := KG2.out.all
    have ll13_7 := KG2.out.lt
    go_wp2_with fail
    refine (markIn er.d.r er.d.c qG0 er.d.zs.length qcG0 er.d.zs (1) _ G0.out (by omega) (by omega)).mono ?_
    rintro e w14 ⟨rfl, inn, hc⟩
    have P0 := Lib.hid (P0.out.chg hc (by omega))
    have O0 := Lib.hid (O0.out.chg hc (by omega))
    have O1 := Lib.hid (O1.out.chg hc (by omega))
    have O2 := Lib.hid (O2.out.chg hc (by omega))
    have KO0 := Lib.hid (KO0.out.chg hc (by omega))
    have KO1 := Lib.hid (KO1.out.chg hc (by omega))
    have KO2 := Lib.hid (KO2.out.chg hc (by omega))
    have KX0 := Lib.hid (KX0.out.chg hc (by omega))
    have G1 := Lib.hid (G1.out.chg hc (by omega))
    have G2 := Lib.hid (G2.out.chg hc (by omega))
    have KG0 := Lib.hid (KG0.out.chg hc (by omega))
    have KG1 := Lib.hid (KG1.out.chg hc (by omega))
    have KG2 := Lib.hid (KG2.out.chg hc (by omega))
    have B := Lib.hid (Below.chg B.out hc (by omega) B.out.size)
    have G0 := Lib.hid inn
    clear hc inn
    obtain ⟨cc14_00, cc14_01, cc14_02, -, -, -⟩ := P0.out.all
    have ll14_0 := P0.out.lt
    obtain ⟨cc14_10, cc14_11, cc14_12, -, -, -⟩ := KO0.out.all
    have ll14_1 := KO0.out.lt
    obtain ⟨cc14_20, cc14_21, cc14_22, -, -, -⟩ := KO1.out.all
    have ll14_2 := KO1.out.lt
    obtain ⟨cc14_30, cc14_31, cc14_32, -, -, -⟩ := KO2.out.all
    have ll14_3 := KO2.out.lt
    obtain ⟨cc14_40, cc14_41, cc14_42, -, -, -⟩ := KX0.out.all
    have ll14_4 := KX0.out.lt
    obtain ⟨cc14_50, cc14_51, cc14_52, -, -, -⟩ := KG0.out.all
    have ll14_5 := KG0.out.lt
    obtain ⟨cc14_60, cc14_61, cc14_62, -, -, -⟩ := KG1.out.all
    have ll14_6 := KG1.out.lt
    obtain ⟨cc14_70, cc14_71, cc14_72, -, -, -⟩ := KG2.out.all
    have ll14_7 := KG2.out.lt
    go_wp2_with fail
    refine (markIn er.u.r er.u.c qG1 er.u.zs.length qcG1 er.u.zs (1 + er.d.zs.length) _ G1.out (by omega) (by omega)).mono ?_
    rintro e w15 ⟨rfl, inn, hc⟩
    have P0 := Lib.hid (P0.out.chg hc (by omega))
    have O0 := Lib.hid (O0.out.chg hc (by omega))
    have O1 := Lib.hid (O1.out.chg hc (by omega))
    have O2 := Lib.hid (O2.out.chg hc (by omega))
    have KO0 := Lib.hid (KO0.out.chg hc (by omega))
    have KO1 := Lib.hid (KO1.out.chg hc (by omega))
    have KO2 := Lib.hid (KO2.out.chg hc (by omega))
    have KX0 := Lib.hid (KX0.out.chg hc (by omega))
    have G2 := Lib.hid (G2.out.chg hc (by omega))
    have KG0 := Lib.hid (KG0.out.chg hc (by omega))
    have KG1 := Lib.hid (KG1.out.chg hc (by omega))
    have KG2 := Lib.hid (KG2.out.chg hc (by omega))
    have G0 := Lib.hid (G0.out.chg hc (by omega))
    have B := Lib.hid (Below.chg B.out hc (by omega) B.out.size)
    have G1 := Lib.hid inn
    clear hc inn
    obtain ⟨cc15_00, cc15_01, cc15_02, -, -, -⟩ := P0.out.all
    have ll15_0 := P0.out.lt
    obtain ⟨cc15_10, cc15_11, cc15_12, -, -, -⟩ := KO0.out.all
    have ll15_1 := KO0.out.lt
    obtain ⟨cc15_20, cc15_21, cc15_22, -, -, -⟩ := KO1.out.all
    have ll15_2 := KO1.out.lt
    obtain ⟨cc15_30, cc15_31, cc15_32, -, -, -⟩ := KO2.out.all
    have ll15_3 := KO2.out.lt
    obtain ⟨cc15_40, cc15_41, cc15_42, -, -, -⟩ := KX0.out.all
    have ll15_4 := KX0.out.lt
    obtain ⟨cc15_50, cc15_51, cc15_52, -, -, -⟩ := KG0.out.all
    have ll15_5 := KG0.out.lt
    obtain ⟨cc15_60, cc15_61, cc15_62, -, -, -⟩ := KG1.out.all
    have ll15_6 := KG1.out.lt
    obtain ⟨cc15_70, cc15_71, cc15_72, -, -, -⟩ := KG2.out.all
    have ll15_7 := KG2.out.lt
    go_wp2_with fail
    refine (markIn er.v.r er.v.c qG2 er.v.zs.length qcG2 er.v.zs (1 + er.d.zs.length + er.u.zs.length) _ G2.out (by omega) (by omega)).mono ?_
    rintro e w16 ⟨rfl, inn, hc⟩
    have P0 := Lib.hid (P0.out.chg hc (by omega))
    have O0 := Lib.hid (O0.out.chg hc (by omega))
    have O1 := Lib.hid (O1.out.chg hc (by omega))
    have O2 := Lib.hid (O2.out.chg hc (by omega))
    have KO0 := Lib.hid (KO0.out.chg hc (by omega))
    have KO1 := Lib.hid (KO1.out.chg hc (by omega))
    have KO2 := Lib.hid (KO2.out.chg hc (by omega))
    have KX0 := Lib.hid (KX0.out.chg hc (by omega))
    have KG0 := Lib.hid (KG0.out.chg hc (by omega))
    have KG1 := Lib.hid (KG1.out.chg hc (by omega))
    have KG2 := Lib.hid (KG2.out.chg hc (by omega))
    have G0 := Lib.hid (G0.out.chg hc (by omega))
    have G1 := Lib.hid (G1.out.chg hc (by omega))
    have B := Lib.hid (Below.chg B.out hc (by omega) B.out.size)
    have G2 := Lib.hid inn
    clear hc inn
    obtain ⟨cc16_00, cc16_01, cc16_02, -, -, -⟩ := P0.out.all
    have ll16_0 := P0.out.lt
    obtain ⟨cc16_10, cc16_11, cc16_12, -, -, -⟩ := KO0.out.all
    have ll16_1 := KO0.out.lt
    obtain ⟨cc16_20, cc16_21, cc16_22, -, -, -⟩ := KO1.out.all
    have ll16_2 := KO1.out.lt
    obtain ⟨cc16_30, cc16_31, cc16_32, -, -, -⟩ := KO2.out.all
    have ll16_3 := KO2.out.lt
    obtain ⟨cc16_40, cc16_41, cc16_42, -, -, -⟩ := KX0.out.all
    have ll16_4 := KX0.out.lt
    obtain ⟨cc16_50, cc16_51, cc16_52, -, -, -⟩ := KG0.out.all
    have ll16_5 := KG0.out.lt
    obtain ⟨cc16_60, cc16_61, cc16_62, -, -, -⟩ := KG1.out.all
    have ll16_6 := KG1.out.lt
    obtain ⟨cc16_70, cc16_71, cc16_72, -, -, -⟩ := KG2.out.all
    have ll16_7 := KG2.out.lt
    go_wp2_with fail
    refine (heldM er.d.r er.d.c qG0 qcG0 er.d.zs.length (1) _ G0.out.rd.2.1 zG0 (by omega) (by omega)).mono ?_
    rintro e w17 ⟨rfl, hb⟩
    have P0 := Lib.hid (P0.out.step hb)
    have O0 := Lib.hid (O0.out.keep hb)
    have O1 := Lib.hid (O1.out.keep hb)
    have O2 := Lib.hid (O2.out.keep hb)
    have KO0 := Lib.hid (KO0.out.step hb)
    have KO1 := Lib.hid (KO1.out.step hb)
    have KO2 := Lib.hid (KO2.out.step hb)
    have KX0 := Lib.hid (KX0.out.step hb)
    have KG0 := Lib.hid (KG0.out.step hb)
    have KG1 := Lib.hid (KG1.out.step hb)
    have KG2 := Lib.hid (KG2.out.step hb)
    have G0 := Lib.hid (G0.out.keep hb)
    have G1 := Lib.hid (G1.out.keep hb)
    have G2 := Lib.hid (G2.out.keep hb)
    have B := Lib.hid (stepB B.out hb)
    clear hb
    obtain ⟨cc17_00, cc17_01, cc17_02, -, -, -⟩ := P0.out.all
    have ll17_0 := P0.out.lt
    obtain ⟨cc17_10, cc17_11, cc17_12, -, -, -⟩ := KO0.out.all
    have ll17_1 := KO0.out.lt
    obtain ⟨cc17_20, cc17_21, cc17_22, -, -, -⟩ := KO1.out.all
    have ll17_2 := KO1.out.lt
    obtain ⟨cc17_30, cc17_31, cc17_32, -, -, -⟩ := KO2.out.all
    have ll17_3 := KO2.out.lt
    obtain ⟨cc17_40, cc17_41, cc17_42, -, -, -⟩ := KX0.out.all
    have ll17_4 := KX0.out.lt
    obtain ⟨cc17_50, cc17_51, cc17_52, -, -, -⟩ := KG0.out.all
    have ll17_5 := KG0.out.lt
    obtain ⟨cc17_60, cc17_61, cc17_62, -, -, -⟩ := KG1.out.all
    have ll17_6 := KG1.out.lt
    obtain ⟨cc17_70, cc17_71, cc17_72, -, -, -⟩ := KG2.out.all
    have ll17_7 := KG2.out.lt
    go_wp2_with fail
    refine (heldM er.u.r er.u.c qG1 qcG1 er.u.zs.length (1 + er.d.zs.length) _ G1.out.rd.2.1 zG1 (by omega) (by omega)).mono ?_
    rintro e w18 ⟨rfl, hb⟩
    have P0 := Lib.hid (P0.out.step hb)
    have O0 := Lib.hid (O0.out.keep hb)
    have O1 := Lib.hid (O1.out.keep hb)
    have O2 := Lib.hid (O2.out.keep hb)
    have KO0 := Lib.hid (KO0.out.step hb)
    have KO1 := Lib.hid (KO1.out.step hb)
    have KO2 := Lib.hid (KO2.out.step hb)
    have KX0 := Lib.hid (KX0.out.step hb)
    have KG0 := Lib.hid (KG0.out.step hb)
    have KG1 := Lib.hid (KG1.out.step hb)
    have KG2 := Lib.hid (KG2.out.step hb)
    have G0 := Lib.hid (G0.out.keep hb)
    have G1 := Lib.hid (G1.out.keep hb)
    have G2 := Lib.hid (G2.out.keep hb)
    have B := Lib.hid (stepB B.out hb)
    clear hb
    obtain ⟨cc18_00, cc18_01, cc18_02, -, -, -⟩ := P0.out.all
    have ll18_0 := P0.out.lt
    obtain ⟨cc18_10, cc18_11, cc18_12, -, -, -⟩ := KO0.out.all
    have ll18_1 := KO0.out.lt
    obtain ⟨cc18_20, cc18_21, cc18_22, -, -, -⟩ := KO1.out.all
    have ll18_2 := KO1.out.lt
    obtain ⟨cc18_30, cc18_31, cc18_32, -, -, -⟩ := KO2.out.all
    have ll18_3 := KO2.out.lt
    obtain ⟨cc18_40, cc18_41, cc18_42, -, -, -⟩ := KX0.out.all
    have ll18_4 := KX0.out.lt
    obtain ⟨cc18_50, cc18_51, cc18_52, -, -, -⟩ := KG0.out.all
    have ll18_5 := KG0.out.lt
    obtain ⟨cc18_60, cc18_61, cc18_62, -, -, -⟩ := KG1.out.all
    have ll18_6 := KG1.out.lt
    obtain ⟨cc18_70, cc18_71, cc18_72, -, -, -⟩ := KG2.out.all
    have ll18_7 := KG2.out.lt
    go_wp2_with fail
    refine (heldM er.v.r er.v.c qG2 qcG2 er.v.zs.length (1 + er.d.zs.length + er.u.zs.length) _ G2.out.rd.2.1 zG2 (by omega) (by omega)).mono ?_
    rintro e w19 ⟨rfl, hb⟩
    have P0 := Lib.hid (P0.out.step hb)
    have O0 := Lib.hid (O0.out.keep hb)
    have O1 := Lib.hid (O1.out.keep hb)
    have O2 := Lib.hid (O2.out.keep hb)
    have KO0 := Lib.hid (KO0.out.step hb)
    have KO1 := Lib.hid (KO1.out.step hb)
    have KO2 := Lib.hid (KO2.out.step hb)
    have KX0 := Lib.hid (KX0.out.step hb)
    have KG0 := Lib.hid (KG0.out.step hb)
    have KG1 := Lib.hid (KG1.out.step hb)
    have KG2 := Lib.hid (KG2.out.step hb)
    have G0 := Lib.hid (G0.out.keep hb)
    have G1 := Lib.hid (G1.out.keep hb)
    have G2 := Lib.hid (G2.out.keep hb)
    have B := Lib.hid (stepB B.out hb)
    clear hb
    obtain ⟨cc19_00, cc19_01, cc19_02, -, -, -⟩ := P0.out.all
    have ll19_0 := P0.out.lt
    obtain ⟨cc19_10, cc19_11, cc19_12, -, -, -⟩ := KO0.out.all
    have ll19_1 := KO0.out.lt
    obtain ⟨cc19_20, cc19_21, cc19_22, -, -, -⟩ := KO1.out.all
    have ll19_2 := KO1.out.lt
    obtain ⟨cc19_30, cc19_31, cc19_32, -, -, -⟩ := KO2.out.all
    have ll19_3 := KO2.out.lt
    obtain ⟨cc19_40, cc19_41, cc19_42, -, -, -⟩ := KX0.out.all
    have ll19_4 := KX0.out.lt
    obtain ⟨cc19_50, cc19_51, cc19_52, -, -, -⟩ := KG0.out.all
    have ll19_5 := KG0.out.lt
    obtain ⟨cc19_60, cc19_61, cc19_62, -, -, -⟩ := KG1.out.all
    have ll19_6 := KG1.out.lt
    obtain ⟨cc19_70, cc19_71, cc19_72, -, -, -⟩ := KG2.out.all
    have ll19_7 := KG2.out.lt
    go_wp2_with fail
    refine (toM a0_0 a0_1 a0_2 cap0_2 xs0 _ (HX0.out.below B.out) (by omega)).mono ?_
    rintro e w20 ⟨gH0, rfl, gg, gi, hb⟩
    have P0 := Lib.hid (P0.out.step hb)
    have O0 := Lib.hid (O0.out.keep hb)
    have O1 := Lib.hid (O1.out.keep hb)
    have O2 := Lib.hid (O2.out.keep hb)
    have KO0 := Lib.hid (KO0.out.step hb)
    have KO1 := Lib.hid (KO1.out.step hb)
    have KO2 := Lib.hid (KO2.out.step hb)
    have KX0 := Lib.hid (KX0.out.step hb)
    have KG0 := Lib.hid (KG0.out.step hb)
    have KG1 := Lib.hid (KG1.out.step hb)
    have KG2 := Lib.hid (KG2.out.step hb)
    have G0 := Lib.hid (G0.out.keep hb)
    have G1 := Lib.hid (G1.out.keep hb)
    have G2 := Lib.hid (G2.out.keep hb)
    have B := Lib.hid (stepB B.out hb)
    have IH0 := Lib.hid gi
    clear hb gg gi
    obtain ⟨cc20_00, cc20_01, cc20_02, -, -, -⟩ := P0.out.all
    have ll20_0 := P0.out.lt
    obtain ⟨cc20_10, cc20_11, cc20_12, -, -, -⟩ := KO0.out.all
    have ll20_1 := KO0.out.lt
    obtain ⟨cc20_20, cc20_21, cc20_22, -, -, -⟩ := KO1.out.all
    have ll20_2 := KO1.out.lt
    obtain ⟨cc20_30, cc20_31, cc20_32, -, -, -⟩ := KO2.out.all
    have ll20_3 := KO2.out.lt
    obtain ⟨cc20_40, cc20_41, cc20_42, -, -, -⟩ := KX0.out.all
    have ll20_4 := KX0.out.lt
    obtain ⟨cc20_50, cc20_51, cc20_52, -, -, -⟩ := KG0.out.all
    have ll20_5 := KG0.out.lt
    obtain ⟨cc20_60, cc20_61, cc20_62, -, -, -⟩ := KG1.out.all
    have ll20_6 := KG1.out.lt
    obtain ⟨cc20_70, cc20_71, cc20_72, -, -, -⟩ := KG2.out.all
    have ll20_7 := KG2.out.lt
    go_wp2_with fail
    refine (iSmithForm a0_0 a0_1 (some ⟨gH0, 0, none⟩) xs0.length xs0 _ IH0.out.rd (by omega)).mono ?_
    rintro e w21 ⟨vH0, vH1, vH2, rfl, o0, o1, o2, hd, he, hf, hb⟩
    rw [ERH.out] at o0 o1 o2 ⊢
    obtain ⟨cH0, tH0, cH1, tH1, cH2, tH2, i0, i1, i2, xH1, xH2, xH3, xH4, xH5, xH6, xH7, xH8, xH9, xH10, xH11, xH12⟩ := own_three o0 o1 o2 hd he hf hb.size
    have zH0 := o0.small
    have zH1 := o1.small
    have zH2 := o2.small
    obtain ⟨qH0, qcH0, rfl, -, -⟩ := o0.form
    obtain ⟨qH1, qcH1, rfl, -, -⟩ := o1.form
    obtain ⟨qH2, qcH2, rfl, -, -⟩ := o2.form
    have P0 := Lib.hid (P0.out.step hb)
    have O0 := Lib.hid (O0.out.keep hb)
    have O1 := Lib.hid (O1.out.keep hb)
    have O2 := Lib.hid (O2.out.keep hb)
    have KO0 := Lib.hid (KO0.out.step hb)
    have KO1 := Lib.hid (KO1.out.step hb)
    have KO2 := Lib.hid (KO2.out.step hb)
    have KX0 := Lib.hid (KX0.out.step hb)
    have KG0 := Lib.hid (KG0.out.step hb)
    have KG1 := Lib.hid (KG1.out.step hb)
    have KG2 := Lib.hid (KG2.out.step hb)
    have G0 := Lib.hid (G0.out.keep hb)
    have G1 := Lib.hid (G1.out.keep hb)
    have G2 := Lib.hid (G2.out.keep hb)
    have B := Lib.hid (stepB B.out hb)
    have H0 := Lib.hid i0
    have H1 := Lib.hid i1
    have H2 := Lib.hid i2
    have yH1 : w20.heap.size ≤ cH0 := by simpa using xH1
    have yH4 : w20.heap.size ≤ cH1 := by simpa using xH4
    have yH7 : w20.heap.size ≤ cH2 := by simpa using xH7
    have sw21 : w20.heap.size ≤ w21.heap.size := by have := hb.size; simpa using this
    clear hb o0 o1 o2 hd he hf i0 i1 i2 xH1 xH4 xH7
    have KH0 : Hid (Blk3 (((w21.alloc (.cells #[.int .i64 er.d.r, .int .i64 er.d.c, .slice qH0 er.d.zs.length qcH0] 26)).alloc (.cells #[.int .i64 er.u.r, .int .i64 er.u.c, .slice qH1 er.u.zs.length qcH1] 26)).alloc (.cells #[.int .i64 er.v.r, .int .i64 er.v.c, .slice qH2 er.v.zs.length qcH2] 26)) (w21.heap.size) 26 (.int .i64 er.d.r) (.int .i64 er.d.c) (.slice qH0 er.d.zs.length qcH0)) := ((Blk3.at_ _ _ _ _ rfl).old _).old _
    have KH1 : Hid (Blk3 (((w21.alloc (.cells #[.int .i64 er.d.r, .int .i64 er.d.c, .slice qH0 er.d.zs.length qcH0] 26)).alloc (.cells #[.int .i64 er.u.r, .int .i64 er.u.c, .slice qH1 er.u.zs.length qcH1] 26)).alloc (.cells #[.int .i64 er.v.r, .int .i64 er.v.c, .slice qH2 er.v.zs.length qcH2] 26)) (w21.heap.size + 1) 26 (.int .i64 er.u.r) (.int .i64 er.u.c) (.slice qH1 er.u.zs.length qcH1)) := (Blk3.at_ _ _ _ _ (by simp)).old _
    have KH2 : Hid (Blk3 (((w21.alloc (.cells #[.int .i64 er.d.r, .int .i64 er.d.c, .slice qH0 er.d.zs.length qcH0] 26)).alloc (.cells #[.int .i64 er.u.r, .int .i64 er.u.c, .slice qH1 er.u.zs.length qcH1] 26)).alloc (.cells #[.int .i64 er.v.r, .int .i64 er.v.c, .slice qH2 er.v.zs.length qcH2] 26)) (w21.heap.size + 1 + 1) 26 (.int .i64 er.v.r) (.int .i64 er.v.c) (.slice qH2 er.v.zs.length qcH2)) := Blk3.at_ _ _ _ _ (by simp)
    obtain ⟨cc21_00, cc21_01, cc21_02, -, -, -⟩ := P0.out.all
    have ll21_0 := P0.out.lt
    obtain ⟨cf21_00, cf21_01, cf21_02, -, -, -⟩ := (((P0.out.old (.cells #[.int .i64 er.d.r, .int .i64 er.d.c, .slice qH0 er.d.zs.length qcH0] 26)).old (.cells #[.int .i64 er.u.r, .int .i64 er.u.c, .slice qH1 er.u.zs.length qcH1] 26)).old (.cells #[.int .i64 er.v.r, .int .i64 er.v.c, .slice qH2 er.v.zs.length qcH2] 26)).all
    obtain ⟨cc21_10, cc21_11, cc21_12, -, -, -⟩ := KO0.out.all
    have ll21_1 := KO0.out.lt
    obtain ⟨cf21_10, cf21_11, cf21_12, -, -, -⟩ := (((KO0.out.old (.cells #[.int .i64 er.d.r, .int .i64 er.d.c, .slice qH0 er.d.zs.length qcH0] 26)).old (.cells #[.int .i64 er.u.r, .int .i64 er.u.c, .slice qH1 er.u.zs.length qcH1] 26)).old (.cells #[.int .i64 er.v.r, .int .i64 er.v.c, .slice qH2 er.v.zs.length qcH2] 26)).all
    obtain ⟨cc21_20, cc21_21, cc21_22, -, -, -⟩ := KO1.out.all
    have ll21_2 := KO1.out.lt
    obtain ⟨cf21_20, cf21_21, cf21_22, -, -, -⟩ := (((KO1.out.old (.cells #[.int .i64 er.d.r, .int .i64 er.d.c, .slice qH0 er.d.zs.length qcH0] 26)).old (.cells #[.int .i64 er.u.r, .int .i64 er.u.c, .slice qH1 er.u.zs.length qcH1] 26)).old (.cells #[.int .i64 er.v.r, .int .i64 er.v.c, .slice qH2 er.v.zs.length qcH2] 26)).all
    obtain ⟨cc21_30, cc21_31, cc21_32, -, -, -⟩ := KO2.out.all
    have ll21_3 := KO2.out.lt
    obtain ⟨cf21_30, cf21_31, cf21_32, -, -, -⟩ := (((KO2.out.old (.cells #[.int .i64 er.d.r, .int .i64 er.d.c, .slice qH0 er.d.zs.length qcH0] 26)).old (.cells #[.int .i64 er.u.r, .int .i64 er.u.c, .slice qH1 er.u.zs.length qcH1] 26)).old (.cells #[.int .i64 er.v.r, .int .i64 er.v.c, .slice qH2 er.v.zs.length qcH2] 26)).all
    obtain ⟨cc21_40, cc21_41, cc21_42, -, -, -⟩ := KX0.out.all
    have ll21_4 := KX0.out.lt
    obtain ⟨cf21_40, cf21_41, cf21_42, -, -, -⟩ := (((KX0.out.old (.cells #[.int .i64 er.d.r, .int .i64 er.d.c, .slice qH0 er.d.zs.length qcH0] 26)).old (.cells #[.int .i64 er.u.r, .int .i64 er.u.c, .slice qH1 er.u.zs.length qcH1] 26)).old (.cells #[.int .i64 er.v.r, .int .i64 er.v.c, .slice qH2 er.v.zs.length qcH2] 26)).all
    obtain ⟨cc21_50, cc21_51, cc21_52, -, -, -⟩ := KG0.out.all
    have ll21_5 := KG0.out.lt
    obtain ⟨cf21_50, cf21_51, cf21_52, -, -, -⟩ := (((KG0.out.old (.cells #[.int .i64 er.d.r, .int .i64 er.d.c, .slice qH0 er.d.zs.length qcH0] 26)).old (.cells #[.int .i64 er.u.r, .int .i64 er.u.c, .slice qH1 er.u.zs.length qcH1] 26)).old (.cells #[.int .i64 er.v.r, .int .i64 er.v.c, .slice qH2 er.v.zs.length qcH2] 26)).all
    obtain ⟨cc21_60, cc21_61, cc21_62, -, -, -⟩ := KG1.out.all
    have ll21_6 := KG1.out.lt
    obtain ⟨cf21_60, cf21_61, cf21_62, -, -, -⟩ := (((KG1.out.old (.cells #[.int .i64 er.d.r, .int .i64 er.d.c, .slice qH0 er.d.zs.length qcH0] 26)).old (.cells #[.int .i64 er.u.r, .int .i64 er.u.c, .slice qH1 er.u.zs.length qcH1] 26)).old (.cells #[.int .i64 er.v.r, .int .i64 er.v.c, .slice qH2 er.v.zs.length qcH2] 26)).all
    obtain ⟨cc21_70, cc21_71, cc21_72, -, -, -⟩ := KG2.out.all
    have ll21_7 := KG2.out.lt
    obtain ⟨cf21_70, cf21_71, cf21_72, -, -, -⟩ := (((KG2.out.old (.cells #[.int .i64 er.d.r, .int .i64 er.d.c, .slice qH0 er.d.zs.length qcH0] 26)).old (.cells #[.int .i64 er.u.r, .int .i64 er.u.c, .slice qH1 er.u.zs.length qcH1] 26)).old (.cells #[.int .i64 er.v.r, .int .i64 er.v.c, .slice qH2 er.v.zs.length qcH2] 26)).all
    go_wp2_with fail
    refine (eqM_t er.d.r er.d.c qH0 qO0 qcH0 qcO0 er.d.zs _ (((H0.out.old _).old _).old _).rd.2.1 (((O0.out.old _).old _).old _).rd.2.1 zH0).mono ?_
    rintro e w22 ⟨rfl, hb⟩
    have KH0 := Lib.hid (KH0.out.step hb)
    have KH1 := Lib.hid (KH1.out.step hb)
    have KH2 := Lib.hid (KH2.out.step hb)
    have P0 := Lib.hid ((((P0.out.old _).old _).old _).step hb)
    have O0 := Lib.hid ((((O0.out.old _).old _).old _).keep hb)
    have O1 := Lib.hid ((((O1.out.old _).old _).old _).keep hb)
    have O2 := Lib.hid ((((O2.out.old _).old _).old _).keep hb)
    have KO0 := Lib.hid ((((KO0.out.old _).old _).old _).step hb)
    have KO1 := Lib.hid ((((KO1.out.old _).old _).old _).step hb)
    have KO2 := Lib.hid ((((KO2.out.old _).old _).old _).step hb)
    have KX0 := Lib.hid ((((KX0.out.old _).old _).old _).step hb)
    have KG0 := Lib.hid ((((KG0.out.old _).old _).old _).step hb)
    have KG1 := Lib.hid ((((KG1.out.old _).old _).old _).step hb)
    have KG2 := Lib.hid ((((KG2.out.old _).old _).old _).step hb)
    have G0 := Lib.hid ((((G0.out.old _).old _).old _).keep hb)
    have G1 := Lib.hid ((((G1.out.old _).old _).old _).keep hb)
    have G2 := Lib.hid ((((G2.out.old _).old _).old _).keep hb)
    have H0 := Lib.hid ((((H0.out.old _).old _).old _).keep hb)
    have H1 := Lib.hid ((((H1.out.old _).old _).old _).keep hb)
    have H2 := Lib.hid ((((H2.out.old _).old _).old _).keep hb)
    have B := Lib.hid (stepB (((B.out.alloc B.out.size _).alloc (by have := B.out.size; simp; omega) _).alloc (by have := B.out.size; simp; omega) _) hb)
    clear hb
    obtain ⟨cc22_00, cc22_01, cc22_02, -, -, -⟩ := P0.out.all
    have ll22_0 := P0.out.lt
    obtain ⟨cc22_10, cc22_11, cc22_12, -, -, -⟩ := KO0.out.all
    have ll22_1 := KO0.out.lt
    obtain ⟨cc22_20, cc22_21, cc22_22, -, -, -⟩ := KO1.out.all
    have ll22_2 := KO1.out.lt
    obtain ⟨cc22_30, cc22_31, cc22_32, -, -, -⟩ := KO2.out.all
    have ll22_3 := KO2.out.lt
    obtain ⟨cc22_40, cc22_41, cc22_42, -, -, -⟩ := KX0.out.all
    have ll22_4 := KX0.out.lt
    obtain ⟨cc22_50, cc22_51, cc22_52, -, -, -⟩ := KG0.out.all
    have ll22_5 := KG0.out.lt
    obtain ⟨cc22_60, cc22_61, cc22_62, -, -, -⟩ := KG1.out.all
    have ll22_6 := KG1.out.lt
    obtain ⟨cc22_70, cc22_71, cc22_72, -, -, -⟩ := KG2.out.all
    have ll22_7 := KG2.out.lt
    obtain ⟨cc22_80, cc22_81, cc22_82, -, -, -⟩ := KH0.out.all
    have ll22_8 := KH0.out.lt
    obtain ⟨cc22_90, cc22_91, cc22_92, -, -, -⟩ := KH1.out.all
    have ll22_9 := KH1.out.lt
    obtain ⟨cc22_100, cc22_101, cc22_102, -, -, -⟩ := KH2.out.all
    have ll22_10 := KH2.out.lt
    go_wp2_with fail
    refine (eqM_t er.u.r er.u.c qH1 qO1 qcH1 qcO1 er.u.zs _ H1.out.rd.2.1 O1.out.rd.2.1 zH1).mono ?_
    rintro e w23 ⟨rfl, hb⟩
    have P0 := Lib.hid (P0.out.step hb)
    have O0 := Lib.hid (O0.out.keep hb)
    have O1 := Lib.hid (O1.out.keep hb)
    have O2 := Lib.hid (O2.out.keep hb)
    have KO0 := Lib.hid (KO0.out.step hb)
    have KO1 := Lib.hid (KO1.out.step hb)
    have KO2 := Lib.hid (KO2.out.step hb)
    have KX0 := Lib.hid (KX0.out.step hb)
    have KG0 := Lib.hid (KG0.out.step hb)
    have KG1 := Lib.hid (KG1.out.step hb)
    have KG2 := Lib.hid (KG2.out.step hb)
    have G0 := Lib.hid (G0.out.keep hb)
    have G1 := Lib.hid (G1.out.keep hb)
    have G2 := Lib.hid (G2.out.keep hb)
    have H0 := Lib.hid (H0.out.keep hb)
    have H1 := Lib.hid (H1.out.keep hb)
    have H2 := Lib.hid (H2.out.keep hb)
    have KH0 := Lib.hid (KH0.out.step hb)
    have KH1 := Lib.hid (KH1.out.step hb)
    have KH2 := Lib.hid (KH2.out.step hb)
    have B := Lib.hid (stepB B.out hb)
    clear hb
    obtain ⟨cc23_00, cc23_01, cc23_02, -, -, -⟩ := P0.out.all
    have ll23_0 := P0.out.lt
    obtain ⟨cc23_10, cc23_11, cc23_12, -, -, -⟩ := KO0.out.all
    have ll23_1 := KO0.out.lt
    obtain ⟨cc23_20, cc23_21, cc23_22, -, -, -⟩ := KO1.out.all
    have ll23_2 := KO1.out.lt
    obtain ⟨cc23_30, cc23_31, cc23_32, -, -, -⟩ := KO2.out.all
    have ll23_3 := KO2.out.lt
    obtain ⟨cc23_40, cc23_41, cc23_42, -, -, -⟩ := KX0.out.all
    have ll23_4 := KX0.out.lt
    obtain ⟨cc23_50, cc23_51, cc23_52, -, -, -⟩ := KG0.out.all
    have ll23_5 := KG0.out.lt
    obtain ⟨cc23_60, cc23_61, cc23_62, -, -, -⟩ := KG1.out.all
    have ll23_6 := KG1.out.lt
    obtain ⟨cc23_70, cc23_71, cc23_72, -, -, -⟩ := KG2.out.all
    have ll23_7 := KG2.out.lt
    obtain ⟨cc23_80, cc23_81, cc23_82, -, -, -⟩ := KH0.out.all
    have ll23_8 := KH0.out.lt
    obtain ⟨cc23_90, cc23_91, cc23_92, -, -, -⟩ := KH1.out.all
    have ll23_9 := KH1.out.lt
    obtain ⟨cc23_100, cc23_101, cc23_102, -, -, -⟩ := KH2.out.all
    have ll23_10 := KH2.out.lt
    go_wp2_with fail
    refine (eqM_t er.v.r er.v.c qH2 qO2 qcH2 qcO2 er.v.zs _ H2.out.rd.2.1 O2.out.rd.2.1 zH2).mono ?_
    rintro e w24 ⟨rfl, hb⟩
    have P0 := Lib.hid (P0.out.step hb)
    have O0 := Lib.hid (O0.out.keep hb)
    have O1 := Lib.hid (O1.out.keep hb)
    have O2 := Lib.hid (O2.out.keep hb)
    have KO0 := Lib.hid (KO0.out.step hb)
    have KO1 := Lib.hid (KO1.out.step hb)
    have KO2 := Lib.hid (KO2.out.step hb)
    have KX0 := Lib.hid (KX0.out.step hb)
    have KG0 := Lib.hid (KG0.out.step hb)
    have KG1 := Lib.hid (KG1.out.step hb)
    have KG2 := Lib.hid (KG2.out.step hb)
    have G0 := Lib.hid (G0.out.keep hb)
    have G1 := Lib.hid (G1.out.keep hb)
    have G2 := Lib.hid (G2.out.keep hb)
    have H0 := Lib.hid (H0.out.keep hb)
    have H1 := Lib.hid (H1.out.keep hb)
    have H2 := Lib.hid (H2.out.keep hb)
    have KH0 := Lib.hid (KH0.out.step hb)
    have KH1 := Lib.hid (KH1.out.step hb)
    have KH2 := Lib.hid (KH2.out.step hb)
    have B := Lib.hid (stepB B.out hb)
    clear hb
    obtain ⟨cc24_00, cc24_01, cc24_02, -, -, -⟩ := P0.out.all
    have ll24_0 := P0.out.lt
    obtain ⟨cc24_10, cc24_11, cc24_12, -, -, -⟩ := KO0.out.all
    have ll24_1 := KO0.out.lt
    obtain ⟨cc24_20, cc24_21, cc24_22, -, -, -⟩ := KO1.out.all
    have ll24_2 := KO1.out.lt
    obtain ⟨cc24_30, cc24_31, cc24_32, -, -, -⟩ := KO2.out.all
    have ll24_3 := KO2.out.lt
    obtain ⟨cc24_40, cc24_41, cc24_42, -, -, -⟩ := KX0.out.all
    have ll24_4 := KX0.out.lt
    obtain ⟨cc24_50, cc24_51, cc24_52, -, -, -⟩ := KG0.out.all
    have ll24_5 := KG0.out.lt
    obtain ⟨cc24_60, cc24_61, cc24_62, -, -, -⟩ := KG1.out.all
    have ll24_6 := KG1.out.lt
    obtain ⟨cc24_70, cc24_71, cc24_72, -, -, -⟩ := KG2.out.all
    have ll24_7 := KG2.out.lt
    obtain ⟨cc24_80, cc24_81, cc24_82, -, -, -⟩ := KH0.out.all
    have ll24_8 := KH0.out.lt
    obtain ⟨cc24_90, cc24_91, cc24_92, -, -, -⟩ := KH1.out.all
    have ll24_9 := KH1.out.lt
    obtain ⟨cc24_100, cc24_101, cc24_102, -, -, -⟩ := KH2.out.all
    have ll24_10 := KH2.out.lt
    go_wp2_with fail
    refine (heldM er.d.r er.d.c qG0 qcG0 er.d.zs.length (1) _ G0.out.rd.2.1 zG0 (by omega) (by omega)).mono ?_
    rintro e w25 ⟨rfl, hb⟩
    have P0 := Lib.hid (P0.out.step hb)
    have O0 := Lib.hid (O0.out.keep hb)
    have O1 := Lib.hid (O1.out.keep hb)
    have O2 := Lib.hid (O2.out.keep hb)
    have KO0 := Lib.hid (KO0.out.step hb)
    have KO1 := Lib.hid (KO1.out.step hb)
    have KO2 := Lib.hid (KO2.out.step hb)
    have KX0 := Lib.hid (KX0.out.step hb)
    have KG0 := Lib.hid (KG0.out.step hb)
    have KG1 := Lib.hid (KG1.out.step hb)
    have KG2 := Lib.hid (KG2.out.step hb)
    have G0 := Lib.hid (G0.out.keep hb)
    have G1 := Lib.hid (G1.out.keep hb)
    have G2 := Lib.hid (G2.out.keep hb)
    have H0 := Lib.hid (H0.out.keep hb)
    have H1 := Lib.hid (H1.out.keep hb)
    have H2 := Lib.hid (H2.out.keep hb)
    have KH0 := Lib.hid (KH0.out.step hb)
    have KH1 := Lib.hid (KH1.out.step hb)
    have KH2 := Lib.hid (KH2.out.step hb)
    have B := Lib.hid (stepB B.out hb)
    clear hb
    obtain ⟨cc25_00, cc25_01, cc25_02, -, -, -⟩ := P0.out.all
    have ll25_0 := P0.out.lt
    obtain ⟨cc25_10, cc25_11, cc25_12, -, -, -⟩ := KO0.out.all
    have ll25_1 := KO0.out.lt
    obtain ⟨cc25_20, cc25_21, cc25_22, -, -, -⟩ := KO1.out.all
    have ll25_2 := KO1.out.lt
    obtain ⟨cc25_30, cc25_31, cc25_32, -, -, -⟩ := KO2.out.all
    have ll25_3 := KO2.out.lt
    obtain ⟨cc25_40, cc25_41, cc25_42, -, -, -⟩ := KX0.out.all
    have ll25_4 := KX0.out.lt
    obtain ⟨cc25_50, cc25_51, cc25_52, -, -, -⟩ := KG0.out.all
    have ll25_5 := KG0.out.lt
    obtain ⟨cc25_60, cc25_61, cc25_62, -, -, -⟩ := KG1.out.all
    have ll25_6 := KG1.out.lt
    obtain ⟨cc25_70, cc25_71, cc25_72, -, -, -⟩ := KG2.out.all
    have ll25_7 := KG2.out.lt
    obtain ⟨cc25_80, cc25_81, cc25_82, -, -, -⟩ := KH0.out.all
    have ll25_8 := KH0.out.lt
    obtain ⟨cc25_90, cc25_91, cc25_92, -, -, -⟩ := KH1.out.all
    have ll25_9 := KH1.out.lt
    obtain ⟨cc25_100, cc25_101, cc25_102, -, -, -⟩ := KH2.out.all
    have ll25_10 := KH2.out.lt
    go_wp2_with fail
    refine (heldM er.u.r er.u.c qG1 qcG1 er.u.zs.length (1 + er.d.zs.length) _ G1.out.rd.2.1 zG1 (by omega) (by omega)).mono ?_
    rintro e w26 ⟨rfl, hb⟩
    have P0 := Lib.hid (P0.out.step hb)
    have O0 := Lib.hid (O0.out.keep hb)
    have O1 := Lib.hid (O1.out.keep hb)
    have O2 := Lib.hid (O2.out.keep hb)
    have KO0 := Lib.hid (KO0.out.step hb)
    have KO1 := Lib.hid (KO1.out.step hb)
    have KO2 := Lib.hid (KO2.out.step hb)
    have KX0 := Lib.hid (KX0.out.step hb)
    have KG0 := Lib.hid (KG0.out.step hb)
    have KG1 := Lib.hid (KG1.out.step hb)
    have KG2 := Lib.hid (KG2.out.step hb)
    have G0 := Lib.hid (G0.out.keep hb)
    have G1 := Lib.hid (G1.out.keep hb)
    have G2 := Lib.hid (G2.out.keep hb)
    have H0 := Lib.hid (H0.out.keep hb)
    have H1 := Lib.hid (H1.out.keep hb)
    have H2 := Lib.hid (H2.out.keep hb)
    have KH0 := Lib.hid (KH0.out.step hb)
    have KH1 := Lib.hid (KH1.out.step hb)
    have KH2 := Lib.hid (KH2.out.step hb)
    have B := Lib.hid (stepB B.out hb)
    clear hb
    obtain ⟨cc26_00, cc26_01, cc26_02, -, -, -⟩ := P0.out.all
    have ll26_0 := P0.out.lt
    obtain ⟨cc26_10, cc26_11, cc26_12, -, -, -⟩ := KO0.out.all
    have ll26_1 := KO0.out.lt
    obtain ⟨cc26_20, cc26_21, cc26_22, -, -, -⟩ := KO1.out.all
    have ll26_2 := KO1.out.lt
    obtain ⟨cc26_30, cc26_31, cc26_32, -, -, -⟩ := KO2.out.all
    have ll26_3 := KO2.out.lt
    obtain ⟨cc26_40, cc26_41, cc26_42, -, -, -⟩ := KX0.out.all
    have ll26_4 := KX0.out.lt
    obtain ⟨cc26_50, cc26_51, cc26_52, -, -, -⟩ := KG0.out.all
    have ll26_5 := KG0.out.lt
    obtain ⟨cc26_60, cc26_61, cc26_62, -, -, -⟩ := KG1.out.all
    have ll26_6 := KG1.out.lt
    obtain ⟨cc26_70, cc26_71, cc26_72, -, -, -⟩ := KG2.out.all
    have ll26_7 := KG2.out.lt
    obtain ⟨cc26_80, cc26_81, cc26_82, -, -, -⟩ := KH0.out.all
    have ll26_8 := KH0.out.lt
    obtain ⟨cc26_90, cc26_91, cc26_92, -, -, -⟩ := KH1.out.all
    have ll26_9 := KH1.out.lt
    obtain ⟨cc26_100, cc26_101, cc26_102, -, -, -⟩ := KH2.out.all
    have ll26_10 := KH2.out.lt
    go_wp2_with fail
    refine (heldM er.v.r er.v.c qG2 qcG2 er.v.zs.length (1 + er.d.zs.length + er.u.zs.length) _ G2.out.rd.2.1 zG2 (by omega) (by omega)).mono ?_
    rintro e w27 ⟨rfl, hb⟩
    have P0 := Lib.hid (P0.out.step hb)
    have O0 := Lib.hid (O0.out.keep hb)
    have O1 := Lib.hid (O1.out.keep hb)
    have O2 := Lib.hid (O2.out.keep hb)
    have KO0 := Lib.hid (KO0.out.step hb)
    have KO1 := Lib.hid (KO1.out.step hb)
    have KO2 := Lib.hid (KO2.out.step hb)
    have KX0 := Lib.hid (KX0.out.step hb)
    have KG0 := Lib.hid (KG0.out.step hb)
    have KG1 := Lib.hid (KG1.out.step hb)
    have KG2 := Lib.hid (KG2.out.step hb)
    have G0 := Lib.hid (G0.out.keep hb)
    have G1 := Lib.hid (G1.out.keep hb)
    have G2 := Lib.hid (G2.out.keep hb)
    have H0 := Lib.hid (H0.out.keep hb)
    have H1 := Lib.hid (H1.out.keep hb)
    have H2 := Lib.hid (H2.out.keep hb)
    have KH0 := Lib.hid (KH0.out.step hb)
    have KH1 := Lib.hid (KH1.out.step hb)
    have KH2 := Lib.hid (KH2.out.step hb)
    have B := Lib.hid (stepB B.out hb)
    clear hb
    obtain ⟨cc27_00, cc27_01, cc27_02, -, -, -⟩ := P0.out.all
    have ll27_0 := P0.out.lt
    obtain ⟨cc27_10, cc27_11, cc27_12, -, -, -⟩ := KO0.out.all
    have ll27_1 := KO0.out.lt
    obtain ⟨cc27_20, cc27_21, cc27_22, -, -, -⟩ := KO1.out.all
    have ll27_2 := KO1.out.lt
    obtain ⟨cc27_30, cc27_31, cc27_32, -, -, -⟩ := KO2.out.all
    have ll27_3 := KO2.out.lt
    obtain ⟨cc27_40, cc27_41, cc27_42, -, -, -⟩ := KX0.out.all
    have ll27_4 := KX0.out.lt
    obtain ⟨cc27_50, cc27_51, cc27_52, -, -, -⟩ := KG0.out.all
    have ll27_5 := KG0.out.lt
    obtain ⟨cc27_60, cc27_61, cc27_62, -, -, -⟩ := KG1.out.all
    have ll27_6 := KG1.out.lt
    obtain ⟨cc27_70, cc27_71, cc27_72, -, -, -⟩ := KG2.out.all
    have ll27_7 := KG2.out.lt
    obtain ⟨cc27_80, cc27_81, cc27_82, -, -, -⟩ := KH0.out.all
    have ll27_8 := KH0.out.lt
    obtain ⟨cc27_90, cc27_91, cc27_92, -, -, -⟩ := KH1.out.all
    have ll27_9 := KH1.out.lt
    obtain ⟨cc27_100, cc27_101, cc27_102, -, -, -⟩ := KH2.out.all
    have ll27_10 := KH2.out.lt
    go_wp2_with fail
    go_ret
    exact ⟨rfl, B.out⟩
  · go_enter Try.func3, Try.ntmps3
    go_wp2_with fail
    refine (szM_f a0_0 a0_1 a0_2 xs0.length cap0_2 (1048576) _ (by omega) (by omega) (by omega)).mono ?_
    rintro e w2 ⟨rfl, hb⟩
    have P0 : Hid (Blk3 w2 w.heap.size 24 (.int .i64 a0_0) (.int .i64 a0_1) (.slice a0_2 xs0.length cap0_2)) := (Blk3.at_ _ _ _ _ rfl).keep hb (by simp)
    have B : Hid (Below w.heap.size w w2) := ((Below.refl _ _).alloc (Nat.le_refl _) _).trans (hb.mono (by simp))
    clear hb
    obtain ⟨cs0_00, cs0_01, cs0_02, -, -, -⟩ := P0.out.all
    go_wp2_with fail
    go_ret
    exact ⟨rfl, B.out⟩

/-! ### The row's step -/
set_option maxRecDepth 100000 in
theorem lifted (os : Os) (started : os.Started) (H : Type) (enc : TypeId × Value → H) :
    ReturnsInHanded {} Try.checked os 3 .any (Rows.fnExactSmithFormSpec.pre6 enc Try.prog Try.f3 Rows.fnExactSmithFormRow.domain false) (Rows.fnExactSmithFormSpec.post enc Try.prog Try.f3 false true false false) := by
  refine returnsInHanded_of_change (C := Try.checked) own started (by kernel_rfl) Try.func3
    (ChangeSpec.witness6 (enc := enc) (C := Try.checked) false ⟨#[], #[.agg #[.int .i64 0, .int .i64 0, .slice none 0 0]], []⟩ 8 (by kernel_rfl) (by kernel_rfl) (by kernel_rfl) (by kernel_rfl)) ?_
  intro W base args ds gs before hval0 hW hcnd _
  have hval : ∀ (j : Nat) t v, Try.f3.params[j]? = some t → args[j]? = some v → Value.okWide Try.prog W .any base t v := hval0
  have hW' := hW
  obtain ⟨p, q, hA0, hV, rfl, hfz, hnd⟩ := hW
  have hA : DataW.TrodAll enc Try.prog W 0 (fun _ => true) true Try.f3.params.toList args.toList ds p := hA0
  rw [Try.params3] at hA hval
  obtain ⟨v0, vs0, d0, ds0, p0, q0, hargs, rfl, rfl, h0, r0⟩ := trodAll_cons hA
  obtain ⟨rfl, rfl, rfl⟩ := trodAll_nil r0
  obtain rfl : args = #[v0] := by cases args; simp_all
  obtain ⟨rfl, rfl⟩ := trodVars_none hV
  have k0 := h0
  have lt0 : ∀ x ∈ p0, x.block < W.heap.size := by obtain ⟨m, hm⟩ := k0; exact DataW.trod_lt m _ _ _ hm
  obtain ⟨c0_0, c0_1, c0_2, y0_0, y0_1, y0_2, m0, rfl, rfl, rfl, hy0_0, hy0_1, hy0_2⟩ := Joins.open_agg3 Try.underlying24 (by kernel_rfl) cells24 (hval 0 24 v0 rfl rfl) h0
  obtain ⟨a0_0, e0_0, rfl, w0_0⟩ := DataW.trod_int Try.underlying3 hy0_0
  simp only [List.cons.injEq, and_true] at e0_0
  subst e0_0
  obtain ⟨a0_1, e0_1, rfl, w0_1⟩ := DataW.trod_int Try.underlying3 hy0_1
  simp only [List.cons.injEq, and_true] at e0_1
  subst e0_1
  obtain ⟨a0_2, len0_2, cap0_2, e0_2⟩ := Joins.slice_form Try.underlying22 hy0_2
  simp only [List.cons.injEq, and_true] at e0_2
  subst e0_2
  obtain ⟨z0_2, w0_2⟩ : ∃ zs, IsRow .i64 W a0_2 len0_2 cap0_2 zs := isRow_of Try.underlying22 Try.underlying3 (by kernel_rfl) hy0_2
  clear hA0 hval0
  refine (walk a0_0 a0_1 a0_2 len0_2 cap0_2 z0_2 W w0_0 w0_1 w0_2).mono fun e W' ⟨he, bel⟩ => ?_
  subst he
  exact ⟨_, rfl, _, _, _, [], _, [], hW', trodAll_mk1 (shut_bool Try.underlying4 _), (trodAll_cons_mk (Below.trod laidOut (by kernel_rfl) (of_decide_eq_true (by kernel_rfl)) k0 bel lt0) trodAll_mk0), rfl, bel.frame _, fun h => by cases h⟩

theorem over : Rows.fnExactSmithFormRow.holds Try.pinned (OpenSpec.ofChange Rows.fnExactSmithFormSpec) :=
  OpenClaim.holds_of_wide 3 Try.f3 rfl rfl rfl rfl rfl rfl rfl ⟨rfl, rfl, rfl, rfl, rfl⟩ rfl rfl rfl rfl rfl (by kernel_rfl) Try.func3 (by kernel_rfl)
    (of_decide_eq_true (by kernel_rfl)) (by unfold Func.isWrapper; first | (rw [if_pos (by decide +kernel)]; kernel_rfl) | (rw [if_neg (by decide +kernel)]; exact ⟨rfl, rfl⟩))
    (fun os started H enc _ => lifted os started H enc)

/-- ████ THE STATEMENT ████ -/
theorem proved : Rows.FnExactSmithFormSaid := over
#print axioms proved
end Go.Proofs.Ytpelnfenfeoeeaa.fnExactSmithForm
