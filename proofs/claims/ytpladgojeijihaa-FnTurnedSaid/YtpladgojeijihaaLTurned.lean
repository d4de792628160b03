/-
  Proved: for every code, the law FnTurned returns true: a product turned over is the product of both turned over in the other order, and a matrix turned over twice is what it was.
  Conditions: none beyond the row's own (the argument reads as data).
-/
import Derived.Test.YtpladgojeijihaaRows
import Derived.ChangeOld
import Derived.Below
import Derived.Test.YtpladgojeijihaaDraw6
import Derived.Test.YtpladgojeijihaaMatI8
import Derived.Test.YtpladgojeijihaaMatI9
import Derived.Test.YtpladgojeijihaaMatI4
import Derived.Test.YtpladgojeijihaaCode
import Derived.Test.YtpladgojeijihaaTurnMath
import Derived.Deep.RegionHeld3
import Derived.Deep.DeepCutAuto
import Derived.WalkKit
import Derived.ProofKit
import Derived.OpenShut
import Derived.ShutString
import Derived.Carry
import Derived.Lib.SmallJoins
namespace Go.Proofs.Ytpladgojeijihaa.fnTurned
open Go.ChangeShapes Go.WideShapes Go.ChangeAt Go.RowKit
open Go.ChangeMaps (open_string shut_string)
set_option linter.unusedVariables false

theorem own : ownKnob Try.prog.godebug = none := by kernel_rfl
theorem laidOut : laidOutB Try.prog = true := by kernel_rfl

/-- What the walk is told of a slice of integers that came in: it is nil; or it leads to a row of 'cap' cells, the numbers 'zs' (the first 'len' are its elements), each fitting its kind. -/
def IsRow (k : IntKind) (w : World) (a : Option Addr) (len cap : Nat) (zs : List Int) : Prop :=
  (a = none ∧ len = 0 ∧ cap = 0 ∧ zs = []) ∨
  ∃ x, a = some x ∧ len ≤ cap ∧ cap ≤ maxLen ∧ zs.length = cap ∧ (∀ i, i < zs.length → w.cell? (x.add i) = some (.int k (zs.getD i 0))) ∧ ∀ n ∈ zs, (Lit.int k n).wf = true
theorem isRow_of {H : Type} {enc : TypeId × Value → H} {P : Program} {W : World} {base : Nat} {held : Bool} {t e : TypeId} {k : IntKind} {a : Option Addr} {len cap fuel : Nat} {x : DataW H × List MemPlace}
    (ht : P.underlying t = some (.slice e)) (he : P.underlying e = some (.int k)) (hc : P.cellsOf e = 1) (hf : DataW.trod enc P W base (fun _ => true) held fuel t [.slice a len cap] = some x) : ∃ zs, IsRow k W a len cap zs := by
  rcases open_ints ht he hc hf with ⟨hcs, _⟩ | ⟨x, l, c, zs, hcs, _, hl, hm, hz, _, hcell, hwz⟩
  · simp at hcs
    obtain ⟨rfl, rfl, rfl⟩ := hcs
    exact ⟨[], .inl ⟨rfl, rfl, rfl, rfl⟩⟩
  · simp at hcs
    obtain ⟨rfl, rfl, rfl⟩ := hcs
    exact ⟨zs, .inr ⟨_, rfl, hl, hm, by simpa using hz, hcell, hwz⟩⟩
theorem _root_.Go.Proofs.Ytpladgojeijihaa.Own.old {B : Nat} {w : World} {v : Value} {zs : List Int} (h : Own B w v zs) (o : Obj) : Own B (w.alloc o) v zs := h.keep ((Below.refl _ _).alloc (Nat.le_refl _) o)
theorem _root_.Go.Proofs.Ytpladgojeijihaa.Own.rd {B : Nat} {w : World} {a : Option Addr} {n cap : Nat} {zs : List Int} (h : Own B w (.slice a n cap) zs) : Rd w a zs := by
  obtain ⟨a', c', e, hr, -⟩ := h.form
  injection e with e1 e2 e3
  rw [e1]; exact hr
theorem codeIn_of_row {w : World} {a : Option Addr} {len cap : Nat} {zs : List Int} (h : IsRow .u8 w a len cap zs) : CodeIn w a len := by
  rcases h with ⟨rfl, rfl, rfl, rfl⟩ | ⟨x, rfl, hl, hm, hz, hcell, hwf⟩
  · exact codeIn_none w
  · exact codeIn_some hl hm hz hcell hwf
set_option maxRecDepth 100000 in
set_option maxHeartbeats 4000000 in

theorem walk (a0 : Option Addr) (len0 cap0 : Nat) (z0 : List Int) (w : World) (w0 : IsRow .u8 w a0 len0 cap0 z0) :
    Calls Try.prog 4 #[.slice a0 len0 cap0] w fun e w' => e = .returned (.bool true) ∧ Below w.heap.size w w' := by
  have hc : CodeIn w a0 len0 := codeIn_of_row w0
  have hl := hc.1
  have HC := Lib.hid hc
  clear w0 hc
  unfold maxLen at hl
  by_cases hbig : len0 ≤ 1048576
  · go_enter Try.func4, Try.ntmps4
    go_wp2_with (fail)
    refine (big_no w a0 len0 cap0 hbig).mono ?_
    rintro e w1 ⟨rfl, rfl⟩
    go_wp2_with (fail)
    refine (drawMul w a0 len0 cap0 HC.out).mono ?_
    rintro e w1 ⟨r, c, v, xs, r', c', v', ys, rfl, o1, o2, l1, l2, hb⟩
    obtain ⟨q1, qc1, rfl, -, -⟩ := o1.form
    obtain ⟨q2, qc2, rfl, -, -⟩ := o2.form
    have B := Lib.hid hb
    have OA := Lib.hid (o1.le (Nat.zero_le _))
    have OB := Lib.hid (o2.le (Nat.zero_le _))
    have n1 : xs.length ≤ 16777216 := by omega
    have n2 : ys.length ≤ 16777216 := by omega
    clear hb o1 o2
    rcases mul_cases r c xs r' c' ys with hno | ⟨R, K, C, rfl, rfl, rfl, rfl, hm1, hm2, hm3, hok⟩
    · have E : Hid (mulM r c xs r' c' ys = ⟨false, 0, 0, []⟩) := hno
      clear hno
      go_wp2_with (fail)
      refine (iMul r c r' c' q1 q2 qc1 qc2 xs ys _ ((OA.out.old _).old _).rd ((OB.out.old _).old _).rd n1 n2).mono ?_
      rintro e w2 ⟨vX, rfl, own, hb⟩
      rw [E.out] at own ⊢
      dsimp only at own ⊢
      obtain ⟨qX, qcX, rfl, -, -⟩ := own.form
      have OA := Lib.hid (((OA.out.old _).old _).keep hb)
      have OB := Lib.hid (((OB.out.old _).old _).keep hb)
      have KA : Hid (Blk3 w2 w1.heap.size 26 (.int .i64 (r)) (.int .i64 (c)) (.slice q1 xs.length qc1)) := ((Blk3.at_ _ _ _ _ rfl).old _).step hb
      have KB : Hid (Blk3 w2 (w1.heap.size + 1) 26 (.int .i64 (r')) (.int .i64 (c')) (.slice q2 ys.length qc2)) := (Blk3.at_ _ _ _ _ (by simp)).step hb
      have B := Lib.hid (stepB ((B.out.alloc B.out.size _).alloc (B.out.alloc B.out.size _).size _) hb)
      clear hb
      have OX := Lib.hid (own.le (Nat.zero_le _))
      clear own
      obtain ⟨cc1_00, cc1_01, cc1_02, -, -, -⟩ := KA.out.all
      have ll1_0 := KA.out.lt
      obtain ⟨cc1_10, cc1_11, cc1_12, -, -, -⟩ := KB.out.all
      have ll1_1 := KB.out.lt
      go_wp2_with (fail)
      refine (sMul r c r' c' q1 q2 qc1 qc2 xs ys _ (OA.out.old _).rd (OB.out.old _).rd n1 n2).mono ?_
      rintro e w3 ⟨vT, rfl, own, hb⟩
      rw [E.out] at own ⊢
      dsimp only at own ⊢
      obtain ⟨qT, qcT, rfl, -, -⟩ := own.form
      have OA := Lib.hid ((OA.out.old _).keep hb)
      have OB := Lib.hid ((OB.out.old _).keep hb)
      have KA := Lib.hid ((KA.out.old _).step hb)
      have KB := Lib.hid ((KB.out.old _).step hb)
      have OX := Lib.hid ((OX.out.old _).keep hb)
      have KX : Hid (Blk3 w3 w2.heap.size 26 (.int .i64 (0)) (.int .i64 (0)) (.slice qX (([] : List Int)).length qcX)) := (Blk3.at_ _ _ _ _ rfl).step hb
      have B := Lib.hid (stepB (B.out.alloc B.out.size _) hb)
      clear hb
      have OT := Lib.hid (own.le (Nat.zero_le _))
      clear own
      obtain ⟨cc2_00, cc2_01, cc2_02, -, -, -⟩ := KA.out.all
      have ll2_0 := KA.out.lt
      obtain ⟨cc2_10, cc2_11, cc2_12, -, -, -⟩ := KB.out.all
      have ll2_1 := KB.out.lt
      obtain ⟨cc2_20, cc2_21, cc2_22, -, -, -⟩ := KX.out.all
      have ll2_2 := KX.out.lt
      go_wp2_with (fail)
      go_ret
      exact ⟨rfl, (B.out.alloc B.out.size _)⟩
    · obtain ⟨-, -, lx, -⟩ := isMat_says hm1
      obtain ⟨-, -, ly, -⟩ := isMat_says hm2
      obtain ⟨⟨R0, R1⟩, ⟨C0, C1⟩, lz, -⟩ := isMat_says hm3
      obtain ⟨-, ⟨K0, K1⟩, -, -⟩ := isMat_says hm1
      obtain ⟨X, hX⟩ : ∃ X, mulL R K C xs ys = X := ⟨_, rfl⟩
      obtain ⟨Y, hY⟩ : ∃ Y, turnL R C X = Y := ⟨_, rfl⟩
      obtain ⟨P, hP⟩ : ∃ P, turnL R K xs = P := ⟨_, rfl⟩
      obtain ⟨Q, hQ⟩ : ∃ Q, turnL K C ys = Q := ⟨_, rfl⟩
      have bX : R * C ≤ 576 := Nat.mul_le_mul (show R ≤ 24 by omega) (show C ≤ 24 by omega)
      have bP : K * R ≤ 576 := Nat.mul_le_mul (show K ≤ 24 by omega) (show R ≤ 24 by omega)
      have bQ : C * K ≤ 576 := Nat.mul_le_mul (show C ≤ 24 by omega) (show K ≤ 24 by omega)
      have bY : C * R ≤ 576 := Nat.mul_le_mul (show C ≤ 24 by omega) (show R ≤ 24 by omega)
      have lX : X.length = R * C := by rw [← hX]; exact mulL_length _ _ _ _ _
      have lY : Y.length ≤ 16777216 := by rw [← hY, turnL_length]; omega
      have lP : P.length ≤ 16777216 := by rw [← hP, turnL_length]; omega
      have lQ : Q.length ≤ 16777216 := by rw [← hQ, turnL_length]; omega
      have e1 : mulM R K xs K C ys = ⟨true, R, C, X⟩ := by rw [← hX]; exact hok
      have e2 : turnM R C X = ⟨true, C, R, Y⟩ := by rw [← hY, ← hX]; exact turnM_ok hm3
      have e3 : turnM R K xs = ⟨true, K, R, P⟩ := by rw [← hP]; exact turnM_ok hm1
      have e4 : turnM K C ys = ⟨true, C, K, Q⟩ := by rw [← hQ]; exact turnM_ok hm2
      have ez : mulL C K R Q P = Y := by rw [← hQ, ← hP, ← hY, ← hX]; exact mul_turn R K C xs ys
      have e5 : mulM C K Q K R P = ⟨true, C, R, Y⟩ := by
        have := mulM_ok (R := C) (K := K) (C := R) (xs := Q) (ys := P) (by rw [← hQ]; exact isMat_turn hm2) (by rw [← hP]; exact isMat_turn hm1) (by rw [ez, ← hY, ← hX]; exact isMat_turn hm3)
        rw [ez] at this
        exact this
      have e6 : turnM C R Y = ⟨true, R, C, X⟩ := by
        have := turnM_ok (R := C) (C := R) (xs := Y) (by rw [← hY, ← hX]; exact isMat_turn hm3)
        rw [this, ← hY, turn_turn R C X lX]
      have lX2 : X.length ≤ 16777216 := by omega
      have E1 := Lib.hid e1
      have E2 := Lib.hid e2
      have E3 := Lib.hid e3
      have E4 := Lib.hid e4
      have E5 := Lib.hid e5
      have E6 := Lib.hid e6
      clear e1 e2 e3 e4 e5 e6 ez hX hY hP hQ lX lx ly lz hok hm1 hm2 hm3 R0 R1 C0 C1 K0 K1 bX bP bQ bY
      go_wp2_with (fail)
      refine (iMul R K K C q1 q2 qc1 qc2 xs ys _ ((OA.out.old _).old _).rd ((OB.out.old _).old _).rd n1 n2).mono ?_
      rintro e w2 ⟨vX, rfl, own, hb⟩
      rw [E1.out] at own ⊢
      dsimp only at own ⊢
      obtain ⟨qX, qcX, rfl, -, -⟩ := own.form
      have OA := Lib.hid (((OA.out.old _).old _).keep hb)
      have OB := Lib.hid (((OB.out.old _).old _).keep hb)
      have KA : Hid (Blk3 w2 w1.heap.size 26 (.int .i64 (R)) (.int .i64 (K)) (.slice q1 xs.length qc1)) := ((Blk3.at_ _ _ _ _ rfl).old _).step hb
      have KB : Hid (Blk3 w2 (w1.heap.size + 1) 26 (.int .i64 (K)) (.int .i64 (C)) (.slice q2 ys.length qc2)) := (Blk3.at_ _ _ _ _ (by simp)).step hb
      have B := Lib.hid (stepB ((B.out.alloc B.out.size _).alloc (B.out.alloc B.out.size _).size _) hb)
      clear hb
      have OX := Lib.hid (own.le (Nat.zero_le _))
      clear own
      obtain ⟨cc1_00, cc1_01, cc1_02, -, -, -⟩ := KA.out.all
      have ll1_0 := KA.out.lt
      obtain ⟨cc1_10, cc1_11, cc1_12, -, -, -⟩ := KB.out.all
      have ll1_1 := KB.out.lt
      go_wp2_with (fail)
      refine (sMul R K K C q1 q2 qc1 qc2 xs ys _ (OA.out.old _).rd (OB.out.old _).rd n1 n2).mono ?_
      rintro e w3 ⟨vT, rfl, own, hb⟩
      rw [E1.out] at own ⊢
      dsimp only at own ⊢
      obtain ⟨qT, qcT, rfl, -, -⟩ := own.form
      have OA := Lib.hid ((OA.out.old _).keep hb)
      have OB := Lib.hid ((OB.out.old _).keep hb)
      have KA := Lib.hid ((KA.out.old _).step hb)
      have KB := Lib.hid ((KB.out.old _).step hb)
      have OX := Lib.hid ((OX.out.old _).keep hb)
      have KX : Hid (Blk3 w3 w2.heap.size 26 (.int .i64 (R)) (.int .i64 (C)) (.slice qX (X).length qcX)) := (Blk3.at_ _ _ _ _ rfl).step hb
      have B := Lib.hid (stepB (B.out.alloc B.out.size _) hb)
      clear hb
      have OT := Lib.hid (own.le (Nat.zero_le _))
      clear own
      obtain ⟨cc2_00, cc2_01, cc2_02, -, -, -⟩ := KA.out.all
      have ll2_0 := KA.out.lt
      obtain ⟨cc2_10, cc2_11, cc2_12, -, -, -⟩ := KB.out.all
      have ll2_1 := KB.out.lt
      obtain ⟨cc2_20, cc2_21, cc2_22, -, -, -⟩ := KX.out.all
      have ll2_2 := KX.out.lt
      go_wp2_with (fail)
      refine (iTransp R C qX qcX X _ (OX.out.old _).rd lX2).mono ?_
      rintro e w4 ⟨vY, rfl, own, hb⟩
      rw [E2.out] at own ⊢
      dsimp only at own ⊢
      obtain ⟨qY, qcY, rfl, -, -⟩ := own.form
      have OA := Lib.hid ((OA.out.old _).keep hb)
      have OB := Lib.hid ((OB.out.old _).keep hb)
      have KA := Lib.hid ((KA.out.old _).step hb)
      have KB := Lib.hid ((KB.out.old _).step hb)
      have OX := Lib.hid ((OX.out.old _).keep hb)
      have KX := Lib.hid ((KX.out.old _).step hb)
      have OT := Lib.hid ((OT.out.old _).keep hb)
      have KT : Hid (Blk3 w4 w3.heap.size 26 (.int .i64 (R)) (.int .i64 (C)) (.slice qT (X).length qcT)) := (Blk3.at_ _ _ _ _ rfl).step hb
      have B := Lib.hid (stepB (B.out.alloc B.out.size _) hb)
      clear hb
      have OY := Lib.hid (own.le (Nat.zero_le _))
      clear own
      obtain ⟨cc3_00, cc3_01, cc3_02, -, -, -⟩ := KA.out.all
      have ll3_0 := KA.out.lt
      obtain ⟨cc3_10, cc3_11, cc3_12, -, -, -⟩ := KB.out.all
      have ll3_1 := KB.out.lt
      obtain ⟨cc3_20, cc3_21, cc3_22, -, -, -⟩ := KX.out.all
      have ll3_2 := KX.out.lt
      obtain ⟨cc3_30, cc3_31, cc3_32, -, -, -⟩ := KT.out.all
      have ll3_3 := KT.out.lt
      go_wp2_with (fail)
      refine (iTransp R K q1 qc1 xs _ (OA.out.old _).rd n1).mono ?_
      rintro e w5 ⟨vP, rfl, own, hb⟩
      rw [E3.out] at own ⊢
      dsimp only at own ⊢
      obtain ⟨qP, qcP, rfl, -, -⟩ := own.form
      have OA := Lib.hid ((OA.out.old _).keep hb)
      have OB := Lib.hid ((OB.out.old _).keep hb)
      have KA := Lib.hid ((KA.out.old _).step hb)
      have KB := Lib.hid ((KB.out.old _).step hb)
      have OX := Lib.hid ((OX.out.old _).keep hb)
      have KX := Lib.hid ((KX.out.old _).step hb)
      have OT := Lib.hid ((OT.out.old _).keep hb)
      have KT := Lib.hid ((KT.out.old _).step hb)
      have OY := Lib.hid ((OY.out.old _).keep hb)
      have KY : Hid (Blk3 w5 w4.heap.size 26 (.int .i64 (C)) (.int .i64 (R)) (.slice qY (Y).length qcY)) := (Blk3.at_ _ _ _ _ rfl).step hb
      have B := Lib.hid (stepB (B.out.alloc B.out.size _) hb)
      clear hb
      have OP := Lib.hid (own.le (Nat.zero_le _))
      clear own
      obtain ⟨cc4_00, cc4_01, cc4_02, -, -, -⟩ := KA.out.all
      have ll4_0 := KA.out.lt
      obtain ⟨cc4_10, cc4_11, cc4_12, -, -, -⟩ := KB.out.all
      have ll4_1 := KB.out.lt
      obtain ⟨cc4_20, cc4_21, cc4_22, -, -, -⟩ := KX.out.all
      have ll4_2 := KX.out.lt
      obtain ⟨cc4_30, cc4_31, cc4_32, -, -, -⟩ := KT.out.all
      have ll4_3 := KT.out.lt
      obtain ⟨cc4_40, cc4_41, cc4_42, -, -, -⟩ := KY.out.all
      have ll4_4 := KY.out.lt
      go_wp2_with (fail)
      refine (iTransp K C q2 qc2 ys _ (OB.out.old _).rd n2).mono ?_
      rintro e w6 ⟨vQ, rfl, own, hb⟩
      rw [E4.out] at own ⊢
      dsimp only at own ⊢
      obtain ⟨qQ, qcQ, rfl, -, -⟩ := own.form
      have OA := Lib.hid ((OA.out.old _).keep hb)
      have OB := Lib.hid ((OB.out.old _).keep hb)
      have KA := Lib.hid ((KA.out.old _).step hb)
      have KB := Lib.hid ((KB.out.old _).step hb)
      have OX := Lib.hid ((OX.out.old _).keep hb)
      have KX := Lib.hid ((KX.out.old _).step hb)
      have OT := Lib.hid ((OT.out.old _).keep hb)
      have KT := Lib.hid ((KT.out.old _).step hb)
      have OY := Lib.hid ((OY.out.old _).keep hb)
      have KY := Lib.hid ((KY.out.old _).step hb)
      have OP := Lib.hid ((OP.out.old _).keep hb)
      have KP : Hid (Blk3 w6 w5.heap.size 26 (.int .i64 (K)) (.int .i64 (R)) (.slice qP (P).length qcP)) := (Blk3.at_ _ _ _ _ rfl).step hb
      have B := Lib.hid (stepB (B.out.alloc B.out.size _) hb)
      clear hb
      have OQ := Lib.hid (own.le (Nat.zero_le _))
      clear own
      obtain ⟨cc5_00, cc5_01, cc5_02, -, -, -⟩ := KA.out.all
      have ll5_0 := KA.out.lt
      obtain ⟨cc5_10, cc5_11, cc5_12, -, -, -⟩ := KB.out.all
      have ll5_1 := KB.out.lt
      obtain ⟨cc5_20, cc5_21, cc5_22, -, -, -⟩ := KX.out.all
      have ll5_2 := KX.out.lt
      obtain ⟨cc5_30, cc5_31, cc5_32, -, -, -⟩ := KT.out.all
      have ll5_3 := KT.out.lt
      obtain ⟨cc5_40, cc5_41, cc5_42, -, -, -⟩ := KY.out.all
      have ll5_4 := KY.out.lt
      obtain ⟨cc5_50, cc5_51, cc5_52, -, -, -⟩ := KP.out.all
      have ll5_5 := KP.out.lt
      go_wp2_with (fail)
      refine (iMul C K K R qQ qP qcQ qcP Q P _ (OQ.out.old _).rd (OP.out.old _).rd lQ lP).mono ?_
      rintro e w7 ⟨vZ, rfl, own, hb⟩
      rw [E5.out] at own ⊢
      dsimp only at own ⊢
      obtain ⟨qZ, qcZ, rfl, -, -⟩ := own.form
      have OA := Lib.hid ((OA.out.old _).keep hb)
      have OB := Lib.hid ((OB.out.old _).keep hb)
      have KA := Lib.hid ((KA.out.old _).step hb)
      have KB := Lib.hid ((KB.out.old _).step hb)
      have OX := Lib.hid ((OX.out.old _).keep hb)
      have KX := Lib.hid ((KX.out.old _).step hb)
      have OT := Lib.hid ((OT.out.old _).keep hb)
      have KT := Lib.hid ((KT.out.old _).step hb)
      have OY := Lib.hid ((OY.out.old _).keep hb)
      have KY := Lib.hid ((KY.out.old _).step hb)
      have OP := Lib.hid ((OP.out.old _).keep hb)
      have KP := Lib.hid ((KP.out.old _).step hb)
      have OQ := Lib.hid ((OQ.out.old _).keep hb)
      have KQ : Hid (Blk3 w7 w6.heap.size 26 (.int .i64 (C)) (.int .i64 (K)) (.slice qQ (Q).length qcQ)) := (Blk3.at_ _ _ _ _ rfl).step hb
      have B := Lib.hid (stepB (B.out.alloc B.out.size _) hb)
      clear hb
      have OZ := Lib.hid (own.le (Nat.zero_le _))
      clear own
      obtain ⟨cc6_00, cc6_01, cc6_02, -, -, -⟩ := KA.out.all
      have ll6_0 := KA.out.lt
      obtain ⟨cc6_10, cc6_11, cc6_12, -, -, -⟩ := KB.out.all
      have ll6_1 := KB.out.lt
      obtain ⟨cc6_20, cc6_21, cc6_22, -, -, -⟩ := KX.out.all
      have ll6_2 := KX.out.lt
      obtain ⟨cc6_30, cc6_31, cc6_32, -, -, -⟩ := KT.out.all
      have ll6_3 := KT.out.lt
      obtain ⟨cc6_40, cc6_41, cc6_42, -, -, -⟩ := KY.out.all
      have ll6_4 := KY.out.lt
      obtain ⟨cc6_50, cc6_51, cc6_52, -, -, -⟩ := KP.out.all
      have ll6_5 := KP.out.lt
      obtain ⟨cc6_60, cc6_61, cc6_62, -, -, -⟩ := KQ.out.all
      have ll6_6 := KQ.out.lt
      go_wp2_with (fail)
      refine (iTransp C R qY qcY Y _ (OY.out.old _).rd lY).mono ?_
      rintro e w8 ⟨vV, rfl, own, hb⟩
      rw [E6.out] at own ⊢
      dsimp only at own ⊢
      obtain ⟨qV, qcV, rfl, -, -⟩ := own.form
      have OA := Lib.hid ((OA.out.old _).keep hb)
      have OB := Lib.hid ((OB.out.old _).keep hb)
      have KA := Lib.hid ((KA.out.old _).step hb)
      have KB := Lib.hid ((KB.out.old _).step hb)
      have OX := Lib.hid ((OX.out.old _).keep hb)
      have KX := Lib.hid ((KX.out.old _).step hb)
      have OT := Lib.hid ((OT.out.old _).keep hb)
      have KT := Lib.hid ((KT.out.old _).step hb)
      have OY := Lib.hid ((OY.out.old _).keep hb)
      have KY := Lib.hid ((KY.out.old _).step hb)
      have OP := Lib.hid ((OP.out.old _).keep hb)
      have KP := Lib.hid ((KP.out.old _).step hb)
      have OQ := Lib.hid ((OQ.out.old _).keep hb)
      have KQ := Lib.hid ((KQ.out.old _).step hb)
      have OZ := Lib.hid ((OZ.out.old _).keep hb)
      have KZ : Hid (Blk3 w8 w7.heap.size 26 (.int .i64 (C)) (.int .i64 (R)) (.slice qZ (Y).length qcZ)) := (Blk3.at_ _ _ _ _ rfl).step hb
      have B := Lib.hid (stepB (B.out.alloc B.out.size _) hb)
      clear hb
      have OV := Lib.hid (own.le (Nat.zero_le _))
      clear own
      obtain ⟨cc7_00, cc7_01, cc7_02, -, -, -⟩ := KA.out.all
      have ll7_0 := KA.out.lt
      obtain ⟨cc7_10, cc7_11, cc7_12, -, -, -⟩ := KB.out.all
      have ll7_1 := KB.out.lt
      obtain ⟨cc7_20, cc7_21, cc7_22, -, -, -⟩ := KX.out.all
      have ll7_2 := KX.out.lt
      obtain ⟨cc7_30, cc7_31, cc7_32, -, -, -⟩ := KT.out.all
      have ll7_3 := KT.out.lt
      obtain ⟨cc7_40, cc7_41, cc7_42, -, -, -⟩ := KY.out.all
      have ll7_4 := KY.out.lt
      obtain ⟨cc7_50, cc7_51, cc7_52, -, -, -⟩ := KP.out.all
      have ll7_5 := KP.out.lt
      obtain ⟨cc7_60, cc7_61, cc7_62, -, -, -⟩ := KQ.out.all
      have ll7_6 := KQ.out.lt
      obtain ⟨cc7_70, cc7_71, cc7_72, -, -, -⟩ := KZ.out.all
      have ll7_7 := KZ.out.lt
      go_wp2_with (fail)
      refine (iSame C R C R qY qZ qcY qcZ Y Y _ (OY.out.old _).rd (OZ.out.old _).rd lY lY).mono ?_
      rintro e w9 ⟨rfl, hb⟩
      have OA := Lib.hid ((OA.out.old _).keep hb)
      have OB := Lib.hid ((OB.out.old _).keep hb)
      have KA := Lib.hid ((KA.out.old _).step hb)
      have KB := Lib.hid ((KB.out.old _).step hb)
      have OX := Lib.hid ((OX.out.old _).keep hb)
      have KX := Lib.hid ((KX.out.old _).step hb)
      have OT := Lib.hid ((OT.out.old _).keep hb)
      have KT := Lib.hid ((KT.out.old _).step hb)
      have OY := Lib.hid ((OY.out.old _).keep hb)
      have KY := Lib.hid ((KY.out.old _).step hb)
      have OP := Lib.hid ((OP.out.old _).keep hb)
      have KP := Lib.hid ((KP.out.old _).step hb)
      have OQ := Lib.hid ((OQ.out.old _).keep hb)
      have KQ := Lib.hid ((KQ.out.old _).step hb)
      have OZ := Lib.hid ((OZ.out.old _).keep hb)
      have KZ := Lib.hid ((KZ.out.old _).step hb)
      have OV := Lib.hid ((OV.out.old _).keep hb)
      have KV : Hid (Blk3 w9 w8.heap.size 26 (.int .i64 (R)) (.int .i64 (C)) (.slice qV (X).length qcV)) := (Blk3.at_ _ _ _ _ rfl).step hb
      have B := Lib.hid (stepB (B.out.alloc B.out.size _) hb)
      clear hb
      rw [sameM_self]
      obtain ⟨cc8_00, cc8_01, cc8_02, -, -, -⟩ := KA.out.all
      have ll8_0 := KA.out.lt
      obtain ⟨cc8_10, cc8_11, cc8_12, -, -, -⟩ := KB.out.all
      have ll8_1 := KB.out.lt
      obtain ⟨cc8_20, cc8_21, cc8_22, -, -, -⟩ := KX.out.all
      have ll8_2 := KX.out.lt
      obtain ⟨cc8_30, cc8_31, cc8_32, -, -, -⟩ := KT.out.all
      have ll8_3 := KT.out.lt
      obtain ⟨cc8_40, cc8_41, cc8_42, -, -, -⟩ := KY.out.all
      have ll8_4 := KY.out.lt
      obtain ⟨cc8_50, cc8_51, cc8_52, -, -, -⟩ := KP.out.all
      have ll8_5 := KP.out.lt
      obtain ⟨cc8_60, cc8_61, cc8_62, -, -, -⟩ := KQ.out.all
      have ll8_6 := KQ.out.lt
      obtain ⟨cc8_70, cc8_71, cc8_72, -, -, -⟩ := KZ.out.all
      have ll8_7 := KZ.out.lt
      obtain ⟨cc8_80, cc8_81, cc8_82, -, -, -⟩ := KV.out.all
      have ll8_8 := KV.out.lt
      go_wp2_with (fail)
      refine (iSame R C R C qV qX qcV qcX X X _ OV.out.rd OX.out.rd lX2 lX2).mono ?_
      rintro e w10 ⟨rfl, hb⟩
      have OA := Lib.hid (OA.out.keep hb)
      have OB := Lib.hid (OB.out.keep hb)
      have KA := Lib.hid (KA.out.step hb)
      have KB := Lib.hid (KB.out.step hb)
      have OX := Lib.hid (OX.out.keep hb)
      have KX := Lib.hid (KX.out.step hb)
      have OT := Lib.hid (OT.out.keep hb)
      have KT := Lib.hid (KT.out.step hb)
      have OY := Lib.hid (OY.out.keep hb)
      have KY := Lib.hid (KY.out.step hb)
      have OP := Lib.hid (OP.out.keep hb)
      have KP := Lib.hid (KP.out.step hb)
      have OQ := Lib.hid (OQ.out.keep hb)
      have KQ := Lib.hid (KQ.out.step hb)
      have OZ := Lib.hid (OZ.out.keep hb)
      have KZ := Lib.hid (KZ.out.step hb)
      have OV := Lib.hid (OV.out.keep hb)
      have KV := Lib.hid (KV.out.step hb)
      have B := Lib.hid (stepB B.out hb)
      clear hb
      rw [sameM_self]
      obtain ⟨cc9_00, cc9_01, cc9_02, -, -, -⟩ := KA.out.all
      have ll9_0 := KA.out.lt
      obtain ⟨cc9_10, cc9_11, cc9_12, -, -, -⟩ := KB.out.all
      have ll9_1 := KB.out.lt
      obtain ⟨cc9_20, cc9_21, cc9_22, -, -, -⟩ := KX.out.all
      have ll9_2 := KX.out.lt
      obtain ⟨cc9_30, cc9_31, cc9_32, -, -, -⟩ := KT.out.all
      have ll9_3 := KT.out.lt
      obtain ⟨cc9_40, cc9_41, cc9_42, -, -, -⟩ := KY.out.all
      have ll9_4 := KY.out.lt
      obtain ⟨cc9_50, cc9_51, cc9_52, -, -, -⟩ := KP.out.all
      have ll9_5 := KP.out.lt
      obtain ⟨cc9_60, cc9_61, cc9_62, -, -, -⟩ := KQ.out.all
      have ll9_6 := KQ.out.lt
      obtain ⟨cc9_70, cc9_71, cc9_72, -, -, -⟩ := KZ.out.all
      have ll9_7 := KZ.out.lt
      obtain ⟨cc9_80, cc9_81, cc9_82, -, -, -⟩ := KV.out.all
      have ll9_8 := KV.out.lt
      go_wp2_with (fail)
      go_ret
      exact ⟨rfl, B.out⟩
  · have hbig' : 1048576 < len0 := by omega
    clear hbig
    go_enter Try.func4, Try.ntmps4
    go_wp2_with (fail)
    refine (big_yes w a0 len0 cap0 hbig').mono ?_
    rintro e w1 ⟨rfl, rfl⟩
    go_wp2_with (fail)
    go_ret
    exact ⟨rfl, Below.refl _ _⟩

/-! ### The row's step -/
set_option maxRecDepth 100000 in
theorem lifted (os : Os) (started : os.Started) (H : Type) (enc : TypeId × Value → H) :
    ReturnsInHanded {} Try.checked os 4 .any (Rows.fnTurnedSpec.pre6 enc Try.prog Try.f4 Rows.fnTurnedRow.domain false) (Rows.fnTurnedSpec.post enc Try.prog Try.f4 false true false false) := by
  refine returnsInHanded_of_change (C := Try.checked) own started (by kernel_rfl) Try.func4
    (ChangeSpec.witness6 (enc := enc) (C := Try.checked) false ⟨#[], #[.slice none 0 0], []⟩ 8 (by kernel_rfl) (by kernel_rfl) (by kernel_rfl) (by kernel_rfl)) ?_
  intro W base args ds gs before hval0 hW hcnd _
  have hval : ∀ (j : Nat) t v, Try.f4.params[j]? = some t → args[j]? = some v → Value.okWide Try.prog W .any base t v := hval0
  have hW' := hW
  obtain ⟨p, q, hA0, hV, rfl, hfz, hnd⟩ := hW
  have hA : DataW.TrodAll enc Try.prog W 0 (fun _ => true) true Try.f4.params.toList args.toList ds p := hA0
  rw [Try.params4] at hA hval
  obtain ⟨v0, vs0, d0, ds0, p0, q0, hargs, rfl, rfl, h0, r0⟩ := trodAll_cons hA
  obtain ⟨rfl, rfl, rfl⟩ := trodAll_nil r0
  obtain rfl : args = #[v0] := by cases args; simp_all
  obtain ⟨rfl, rfl⟩ := trodVars_none hV
  have k0 := h0
  have lt0 : ∀ x ∈ p0, x.block < W.heap.size := by obtain ⟨m, hm⟩ := k0; exact DataW.trod_lt m _ _ _ hm
  obtain ⟨a0, len0, cap0, rfl⟩ := okWide_slice Try.underlying22 (hval 0 22 v0 rfl rfl)
  obtain ⟨fuel0, hf0⟩ := h0
  obtain ⟨z0, w0⟩ : ∃ zs, IsRow .u8 W a0 len0 cap0 zs := isRow_of Try.underlying22 Try.underlying5 (by kernel_rfl) (by simpa [Value.cells] using hf0)
  clear hA0 hval0
  refine (walk a0 len0 cap0 z0 W w0).mono fun e W' ⟨he, bel⟩ => ?_
  subst he
  exact ⟨_, rfl, _, _, _, [], _, [], hW', trodAll_mk1 (shut_bool Try.underlying4 _), (trodAll_cons_mk (Below.trod laidOut (by kernel_rfl) (of_decide_eq_true (by kernel_rfl)) k0 bel lt0) trodAll_mk0), rfl, bel.frame _, fun h => by cases h⟩

theorem over : Rows.fnTurnedRow.holds Try.pinned (OpenSpec.ofChange Rows.fnTurnedSpec) :=
  OpenClaim.holds_of_wide 4 Try.f4 rfl rfl rfl rfl rfl rfl rfl ⟨rfl, rfl, rfl, rfl, rfl⟩ rfl rfl rfl rfl rfl (by kernel_rfl) Try.func4 (by kernel_rfl)
    (of_decide_eq_true (by kernel_rfl)) (by unfold Func.isWrapper; first | (rw [if_pos (by decide +kernel)]; kernel_rfl) | (rw [if_neg (by decide +kernel)]; exact ⟨rfl, rfl⟩))
    (fun os started H enc _ => lifted os started H enc)

/-- ████ THE STATEMENT ████ -/
theorem proved : Rows.FnTurnedSaid := over
#print axioms proved
end Go.Proofs.Ytpladgojeijihaa.fnTurned
