/-
  Proved: for every code, the law FnRing returns true: products of matrices can be grouped in any way and distribute over sums, wherever no result is beyond the limit.
  Conditions: none beyond the row's own (the argument reads as data).
-/
import Derived.Test.YtiggioccmlbhhaaRows
import Derived.ChangeOld
import Derived.Below
import Derived.Test.YtiggioccmlbhhaaDraw6
import Derived.Test.YtiggioccmlbhhaaMatI6
import Derived.Test.YtiggioccmlbhhaaMatI9
import Derived.Test.YtiggioccmlbhhaaSame
import Derived.Test.YtiggioccmlbhhaaSameS
import Derived.Test.YtiggioccmlbhhaaCode
import Derived.Test.YtiggioccmlbhhaaRingMath
import Derived.Test.YtiggioccmlbhhaaMix
import Derived.Test.YtiggioccmlbhhaaScaleS
import Derived.Deep.RegionHeld3
import Derived.Deep.DeepCutAuto
import Derived.WalkKit
import Derived.ProofKit
import Derived.OpenShut
import Derived.ShutString
import Derived.Carry
import Derived.Lib.SmallJoins
namespace Go.Proofs.Ytiggioccmlbhhaa.fnRing
open Go.ChangeShapes Go.WideShapes Go.ChangeAt Go.RowKit
open Go.ChangeMaps (open_string shut_string)
set_option linter.unusedVariables false

theorem own : ownKnob Try.prog.godebug = none := by kernel_rfl
theorem laidOut : laidOutB Try.prog = true := by kernel_rfl

/-- What the walk is told of a slice of integers that came in: it is nil; or it leads to a row of 'cap' cells, the numbers 'zs' (the first 'len' are its elements), each fitting its kind. -/
def IsRow (k : IntKind) (w : World) (a : Option Addr) (len cap : Nat) (zs : List Int) : Prop :=
  (a = none ∧ len = 0 ∧ cap = 0 ∧ zs = []) ∨
  ∃ x, a = some x ∧ len ≤ cap ∧ cap ≤ maxLen ∧ zs.length = cap ∧ (∀ i, i < zs.length → w.cell? (x.add i) = some (.int k (zs.getD i 0))) ∧ ∀ n ∈ zs, (Lit.int k n).wf = true
theorem isRow_of {H : Type} {enc : TypeId × Value → H} {P : Program} {W : World} {base : Nat} {held : Bool} {t e : TypeId} {k : IntKind} {a : Option Addr} {len cap fuel : Nat} {x : DataW H × List MemPlace}
    (ht : P.underlying t = some (.slice e)) (he : P.underlying e = some (.int k)) (hc : P.cellsOf e = 1) (hf : DataW.trod enc P W base (fun _ => true) held fuel t [.slice a len cap] = some x) : ∃ zs, IsRow k W a len cap zs := by
  rcases open_ints ht he hc hf with ⟨hcs, _⟩ | ⟨x, l, c, zs, hcs, _, hl, hm, hz, _, hcell, hwz⟩
  · simp at hcs
    obtain ⟨rfl, rfl, rfl⟩ := hcs
    exact ⟨[], .inl ⟨rfl, rfl, rfl, rfl⟩⟩
  · simp at hcs
    obtain ⟨rfl, rfl, rfl⟩ := hcs
    exact ⟨zs, .inr ⟨_, rfl, hl, hm, by simpa using hz, hcell, hwz⟩⟩
theorem _root_.Go.Proofs.Ytiggioccmlbhhaa.Own.old {B : Nat} {w : World} {v : Value} {zs : List Int} (h : Own B w v zs) (o : Obj) : Own B (w.alloc o) v zs := h.keep ((Below.refl _ _).alloc (Nat.le_refl _) o)
theorem _root_.Go.Proofs.Ytiggioccmlbhhaa.Own.rd {B : Nat} {w : World} {a : Option Addr} {n cap : Nat} {zs : List Int} (h : Own B w (.slice a n cap) zs) : Rd w a zs := by
  obtain ⟨a', c', e, hr, -⟩ := h.form
  injection e with e1 e2 e3
  rw [e1]; exact hr
theorem sSameE (x y : MR) (a b : Option Addr) (m n : Nat) (w : World) (e : x = y) (h : Rd w a x.zs) (h' : Rd w b y.zs) (hn : x.zs.length ≤ 16777216) :
    Calls Try.prog 19 #[.agg #[.int .i64 x.r, .int .i64 x.c, .slice a x.zs.length m], .agg #[.int .i64 y.r, .int .i64 y.c, .slice b y.zs.length n]] w (Gives (.bool true) w) := by
  subst e
  have := sSame x.r x.c x.r x.c a b m n x.zs x.zs w h h' hn
  rw [sameM_self] at this
  exact this
theorem iSameE (x y : MR) (a b : Option Addr) (m n : Nat) (w : World) (e : x = y) (h : Rd w a x.zs) (h' : Rd w b y.zs) (hn : x.zs.length ≤ 16777216) (hn' : y.zs.length ≤ 16777216) :
    Calls Try.prog 16 #[.agg #[.int .i64 x.r, .int .i64 x.c, .slice a x.zs.length m], .agg #[.int .i64 y.r, .int .i64 y.c, .slice b y.zs.length n]] w (Gives (.bool true) w) := by
  subst e
  have := iSame x.r x.c x.r x.c a b m n x.zs x.zs w h h' hn hn'
  rw [sameM_self] at this
  exact this
theorem codeIn_of_row {w : World} {a : Option Addr} {len cap : Nat} {zs : List Int} (h : IsRow .u8 w a len cap zs) : CodeIn w a len := by
  rcases h with ⟨rfl, rfl, rfl, rfl⟩ | ⟨x, rfl, hl, hm, hz, hcell, hwf⟩
  · exact codeIn_none w
  · exact codeIn_some hl hm hz hcell hwf
set_option maxRecDepth 100000 in
set_option maxHeartbeats 16000000 in

theorem walk (a0 : Option Addr) (len0 cap0 : Nat) (z0 : List Int) (w : World) (w0 : IsRow .u8 w a0 len0 cap0 z0) :
    Calls Try.prog 3 #[.slice a0 len0 cap0] w fun e w' => e = .returned (.bool true) ∧ Below w.heap.size w w' := by
  have hc : CodeIn w a0 len0 := codeIn_of_row w0
  have hl := hc.1
  have HC := Lib.hid hc
  clear w0 hc
  unfold maxLen at hl
  by_cases hbig : len0 ≤ 1048576
  · go_enter Try.func3, Try.ntmps3
    go_wp2_with (fail)
    refine (big_no w a0 len0 cap0 hbig).mono ?_
    rintro e w1 ⟨rfl, rfl⟩
    go_wp2_with (fail)
    refine (drawMul w a0 len0 cap0 HC.out).mono ?_
    rintro e w1 ⟨r, c, v, xs, r', c', v', ys, rfl, o1, o2, l1, l2, hb⟩
    obtain ⟨q1, qc1, rfl, -, -⟩ := o1.form
    obtain ⟨q2, qc2, rfl, -, -⟩ := o2.form
    have B := Lib.hid hb
    have OA := Lib.hid (o1.le (Nat.zero_le _))
    have OB := Lib.hid (o2.le (Nat.zero_le _))
    have n1 : xs.length ≤ 16777216 := by omega
    have n2 : ys.length ≤ 16777216 := by omega
    clear hb o1 o2
    rcases mul_cases r c xs r' c' ys with hno | ⟨R, K, C, rfl, rfl, rfl, rfl, hm1, hm2, hm3, hok⟩
    · have E : Hid (mulM r c xs r' c' ys = ⟨false, 0, 0, []⟩) := hno
      clear hno
      have wh := B.out.size
      go_wp2_with (fail)
      refine (lMix _ a0 len0 cap0 _ (HC.out.below (by exact ((B.out.alloc B.out.size _).alloc (B.out.alloc B.out.size _).size _))) (by omega) (by omega)).mono ?_
      rintro e w2 ⟨rM, cM, qM, qcM, zM, rfl, own, -, nM, hb⟩
      have nM : zM.length ≤ 16777216 := by omega
      have OA := Lib.hid (((OA.out.old _).old _).keep hb)
      have OB := Lib.hid (((OB.out.old _).old _).keep hb)
      have KA : Hid (Blk3 w2 w1.heap.size 26 (.int .i64 (r)) (.int .i64 (c)) (.slice q1 xs.length qc1)) := ((Blk3.at_ _ _ _ _ rfl).old _).step hb
      have KB : Hid (Blk3 w2 (w1.heap.size + 1) 26 (.int .i64 (r')) (.int .i64 (c')) (.slice q2 ys.length qc2)) := (Blk3.at_ _ _ _ _ (by simp)).step hb
      have B := Lib.hid (stepB ((B.out.alloc B.out.size _).alloc (B.out.alloc B.out.size _).size _) hb)
      clear hb
      have OM := Lib.hid (own.le (Nat.zero_le _))
      clear own
      obtain ⟨cc1_00, cc1_01, cc1_02, -, -, -⟩ := KA.out.all
      have ll1_0 := KA.out.lt
      obtain ⟨cc1_10, cc1_11, cc1_12, -, -, -⟩ := KB.out.all
      have ll1_1 := KB.out.lt
      go_wp2_with (fail)
      refine (iMul r c r' c' q1 q2 qc1 qc2 xs ys _ (OA.out.old _).rd (OB.out.old _).rd n1 n2).mono ?_
      rintro e w3 ⟨vX, rfl, own, hb⟩
      rw [E.out] at own ⊢
      dsimp only at own ⊢
      obtain ⟨qX, qcX, rfl, -, -⟩ := own.form
      have OA := Lib.hid ((OA.out.old _).keep hb)
      have OB := Lib.hid ((OB.out.old _).keep hb)
      have KA := Lib.hid ((KA.out.old _).step hb)
      have KB := Lib.hid ((KB.out.old _).step hb)
      have OM := Lib.hid ((OM.out.old _).keep hb)
      have KM : Hid (Blk3 w3 w2.heap.size 26 (.int .i64 (rM)) (.int .i64 (cM)) (.slice qM zM.length qcM)) := (Blk3.at_ _ _ _ _ rfl).step hb
      have B := Lib.hid (stepB (B.out.alloc B.out.size _) hb)
      clear hb
      have OX := Lib.hid (own.le (Nat.zero_le _))
      clear own
      obtain ⟨cc2_00, cc2_01, cc2_02, -, -, -⟩ := KA.out.all
      have ll2_0 := KA.out.lt
      obtain ⟨cc2_10, cc2_11, cc2_12, -, -, -⟩ := KB.out.all
      have ll2_1 := KB.out.lt
      obtain ⟨cc2_20, cc2_21, cc2_22, -, -, -⟩ := KM.out.all
      have ll2_2 := KM.out.lt
      go_wp2_with (fail)
      refine (iSame 0 0 0 0 qX none qcX 0 [] [] _ (OX.out.old _).rd (Rd.nil _ _) (by simp) (by simp)).mono ?_
      rintro e w4 ⟨rfl, hb⟩
      have OA := Lib.hid ((OA.out.old _).keep hb)
      have OB := Lib.hid ((OB.out.old _).keep hb)
      have KA := Lib.hid ((KA.out.old _).step hb)
      have KB := Lib.hid ((KB.out.old _).step hb)
      have OM := Lib.hid ((OM.out.old _).keep hb)
      have KM := Lib.hid ((KM.out.old _).step hb)
      have OX := Lib.hid ((OX.out.old _).keep hb)
      have KX : Hid (Blk3 w4 w3.heap.size 26 (.int .i64 (0)) (.int .i64 (0)) (.slice qX (([] : List Int)).length qcX)) := (Blk3.at_ _ _ _ _ rfl).step hb
      have B := Lib.hid (stepB (B.out.alloc B.out.size _) hb)
      clear hb
      rw [sameM_self]
      obtain ⟨cc3_00, cc3_01, cc3_02, -, -, -⟩ := KA.out.all
      have ll3_0 := KA.out.lt
      obtain ⟨cc3_10, cc3_11, cc3_12, -, -, -⟩ := KB.out.all
      have ll3_1 := KB.out.lt
      obtain ⟨cc3_20, cc3_21, cc3_22, -, -, -⟩ := KM.out.all
      have ll3_2 := KM.out.lt
      obtain ⟨cc3_30, cc3_31, cc3_32, -, -, -⟩ := KX.out.all
      have ll3_3 := KX.out.lt
      go_wp2_with (fail)
      go_ret
      exact ⟨rfl, B.out⟩
    · have H2 := Lib.hid hm2
      have H3 := Lib.hid hm3
      have hl : (mulL R K C xs ys).length = R * C := mulL_length _ _ _ _ _
      obtain ⟨⟨R0, R1⟩, ⟨C0, C1⟩, -, -⟩ := isMat_says hm3
      have hl2 : R * C ≤ 576 := Nat.mul_le_mul (show R ≤ 24 by omega) (show C ≤ 24 by omega)
      obtain ⟨X, hX⟩ : ∃ X, mulL R K C xs ys = X := ⟨_, rfl⟩
      rw [hX] at hl hok
      have lX : X.length ≤ 16777216 := by omega
      have XH := Lib.hid hX
      have E1 := Lib.hid hok
      clear hm1 hm2 hm3 hok hX hl hl2 R0 R1 C0 C1
      have wh := B.out.size
      go_wp2_with (fail)
      refine (lMix _ a0 len0 cap0 _ (HC.out.below (by exact ((B.out.alloc B.out.size _).alloc (B.out.alloc B.out.size _).size _))) (by omega) (by omega)).mono ?_
      rintro e w2 ⟨rM, cM, qM, qcM, zM, rfl, own, -, nM, hb⟩
      have nM : zM.length ≤ 16777216 := by omega
      have OA := Lib.hid (((OA.out.old _).old _).keep hb)
      have OB := Lib.hid (((OB.out.old _).old _).keep hb)
      have KA : Hid (Blk3 w2 w1.heap.size 26 (.int .i64 (R)) (.int .i64 (K)) (.slice q1 xs.length qc1)) := ((Blk3.at_ _ _ _ _ rfl).old _).step hb
      have KB : Hid (Blk3 w2 (w1.heap.size + 1) 26 (.int .i64 (K)) (.int .i64 (C)) (.slice q2 ys.length qc2)) := (Blk3.at_ _ _ _ _ (by simp)).step hb
      have B := Lib.hid (stepB ((B.out.alloc B.out.size _).alloc (B.out.alloc B.out.size _).size _) hb)
      clear hb
      have OM := Lib.hid (own.le (Nat.zero_le _))
      clear own
      obtain ⟨cc1_00, cc1_01, cc1_02, -, -, -⟩ := KA.out.all
      have ll1_0 := KA.out.lt
      obtain ⟨cc1_10, cc1_11, cc1_12, -, -, -⟩ := KB.out.all
      have ll1_1 := KB.out.lt
      go_wp2_with (fail)
      refine (iMul R K K C q1 q2 qc1 qc2 xs ys _ (OA.out.old _).rd (OB.out.old _).rd n1 n2).mono ?_
      rintro e w3 ⟨vX, rfl, own, hb⟩
      rw [E1.out] at own ⊢
      dsimp only at own ⊢
      obtain ⟨qX, qcX, rfl, -, -⟩ := own.form
      have OA := Lib.hid ((OA.out.old _).keep hb)
      have OB := Lib.hid ((OB.out.old _).keep hb)
      have KA := Lib.hid ((KA.out.old _).step hb)
      have KB := Lib.hid ((KB.out.old _).step hb)
      have OM := Lib.hid ((OM.out.old _).keep hb)
      have KM : Hid (Blk3 w3 w2.heap.size 26 (.int .i64 (rM)) (.int .i64 (cM)) (.slice qM zM.length qcM)) := (Blk3.at_ _ _ _ _ rfl).step hb
      have B := Lib.hid (stepB (B.out.alloc B.out.size _) hb)
      clear hb
      have OX := Lib.hid (own.le (Nat.zero_le _))
      clear own
      obtain ⟨cc2_00, cc2_01, cc2_02, -, -, -⟩ := KA.out.all
      have ll2_0 := KA.out.lt
      obtain ⟨cc2_10, cc2_11, cc2_12, -, -, -⟩ := KB.out.all
      have ll2_1 := KB.out.lt
      obtain ⟨cc2_20, cc2_21, cc2_22, -, -, -⟩ := KM.out.all
      have ll2_2 := KM.out.lt
      go_wp2_with (fail)
      obtain ⟨mY, hY⟩ : ∃ m, mulM R C X rM cM zM = m := ⟨_, rfl⟩
      have HY := Lib.hid hY
      clear hY
      refine (iMul R C rM cM qX qM qcX qcM X zM _ (OX.out.old _).rd (OM.out.old _).rd lX nM).mono ?_
      rintro e w4 ⟨vY, rfl, own, hb⟩
      rw [HY.out] at own ⊢
      obtain ⟨qY, qcY, rfl, -, -⟩ := own.form
      have nY := own.small
      have OA := Lib.hid ((OA.out.old _).keep hb)
      have OB := Lib.hid ((OB.out.old _).keep hb)
      have KA := Lib.hid ((KA.out.old _).step hb)
      have KB := Lib.hid ((KB.out.old _).step hb)
      have OM := Lib.hid ((OM.out.old _).keep hb)
      have KM := Lib.hid ((KM.out.old _).step hb)
      have OX := Lib.hid ((OX.out.old _).keep hb)
      have KX : Hid (Blk3 w4 w3.heap.size 26 (.int .i64 (R)) (.int .i64 (C)) (.slice qX (X).length qcX)) := (Blk3.at_ _ _ _ _ rfl).step hb
      have B := Lib.hid (stepB (B.out.alloc B.out.size _) hb)
      clear hb
      have OY := Lib.hid (own.le (Nat.zero_le _))
      clear own
      obtain ⟨cc3_00, cc3_01, cc3_02, -, -, -⟩ := KA.out.all
      have ll3_0 := KA.out.lt
      obtain ⟨cc3_10, cc3_11, cc3_12, -, -, -⟩ := KB.out.all
      have ll3_1 := KB.out.lt
      obtain ⟨cc3_20, cc3_21, cc3_22, -, -, -⟩ := KM.out.all
      have ll3_2 := KM.out.lt
      obtain ⟨cc3_30, cc3_31, cc3_32, -, -, -⟩ := KX.out.all
      have ll3_3 := KX.out.lt
      go_wp2_with (fail)
      obtain ⟨mZ, hZ⟩ : ∃ m, mulM K C ys rM cM zM = m := ⟨_, rfl⟩
      have HZ := Lib.hid hZ
      clear hZ
      refine (iMul K C rM cM q2 qM qc2 qcM ys zM _ (OB.out.old _).rd (OM.out.old _).rd n2 nM).mono ?_
      rintro e w5 ⟨vZ, rfl, own, hb⟩
      rw [HZ.out] at own ⊢
      obtain ⟨qZ, qcZ, rfl, -, -⟩ := own.form
      have nZ := own.small
      have OA := Lib.hid ((OA.out.old _).keep hb)
      have OB := Lib.hid ((OB.out.old _).keep hb)
      have KA := Lib.hid ((KA.out.old _).step hb)
      have KB := Lib.hid ((KB.out.old _).step hb)
      have OM := Lib.hid ((OM.out.old _).keep hb)
      have KM := Lib.hid ((KM.out.old _).step hb)
      have OX := Lib.hid ((OX.out.old _).keep hb)
      have KX := Lib.hid ((KX.out.old _).step hb)
      have OY := Lib.hid ((OY.out.old _).keep hb)
      have KY : Hid (Blk3 w5 w4.heap.size 26 (.int .i64 (mY.r)) (.int .i64 (mY.c)) (.slice qY mY.zs.length qcY)) := (Blk3.at_ _ _ _ _ rfl).step hb
      have B := Lib.hid (stepB (B.out.alloc B.out.size _) hb)
      clear hb
      have OZ := Lib.hid (own.le (Nat.zero_le _))
      clear own
      obtain ⟨cc4_00, cc4_01, cc4_02, -, -, -⟩ := KA.out.all
      have ll4_0 := KA.out.lt
      obtain ⟨cc4_10, cc4_11, cc4_12, -, -, -⟩ := KB.out.all
      have ll4_1 := KB.out.lt
      obtain ⟨cc4_20, cc4_21, cc4_22, -, -, -⟩ := KM.out.all
      have ll4_2 := KM.out.lt
      obtain ⟨cc4_30, cc4_31, cc4_32, -, -, -⟩ := KX.out.all
      have ll4_3 := KX.out.lt
      obtain ⟨cc4_40, cc4_41, cc4_42, -, -, -⟩ := KY.out.all
      have ll4_4 := KY.out.lt
      go_wp2_with (fail)
      obtain ⟨mW, hW⟩ : ∃ m, mulM R K xs mZ.r mZ.c mZ.zs = m := ⟨_, rfl⟩
      have HW := Lib.hid hW
      clear hW
      refine (iMul R K mZ.r mZ.c q1 qZ qc1 qcZ xs mZ.zs _ (OA.out.old _).rd (OZ.out.old _).rd n1 nZ).mono ?_
      rintro e w6 ⟨vW, rfl, own, hb⟩
      rw [HW.out] at own ⊢
      obtain ⟨qW, qcW, rfl, -, -⟩ := own.form
      have nW := own.small
      have OA := Lib.hid ((OA.out.old _).keep hb)
      have OB := Lib.hid ((OB.out.old _).keep hb)
      have KA := Lib.hid ((KA.out.old _).step hb)
      have KB := Lib.hid ((KB.out.old _).step hb)
      have OM := Lib.hid ((OM.out.old _).keep hb)
      have KM := Lib.hid ((KM.out.old _).step hb)
      have OX := Lib.hid ((OX.out.old _).keep hb)
      have KX := Lib.hid ((KX.out.old _).step hb)
      have OY := Lib.hid ((OY.out.old _).keep hb)
      have KY := Lib.hid ((KY.out.old _).step hb)
      have OZ := Lib.hid ((OZ.out.old _).keep hb)
      have KZ : Hid (Blk3 w6 w5.heap.size 26 (.int .i64 (mZ.r)) (.int .i64 (mZ.c)) (.slice qZ mZ.zs.length qcZ)) := (Blk3.at_ _ _ _ _ rfl).step hb
      have B := Lib.hid (stepB (B.out.alloc B.out.size _) hb)
      clear hb
      have OW := Lib.hid (own.le (Nat.zero_le _))
      clear own
      obtain ⟨cc5_00, cc5_01, cc5_02, -, -, -⟩ := KA.out.all
      have ll5_0 := KA.out.lt
      obtain ⟨cc5_10, cc5_11, cc5_12, -, -, -⟩ := KB.out.all
      have ll5_1 := KB.out.lt
      obtain ⟨cc5_20, cc5_21, cc5_22, -, -, -⟩ := KM.out.all
      have ll5_2 := KM.out.lt
      obtain ⟨cc5_30, cc5_31, cc5_32, -, -, -⟩ := KX.out.all
      have ll5_3 := KX.out.lt
      obtain ⟨cc5_40, cc5_41, cc5_42, -, -, -⟩ := KY.out.all
      have ll5_4 := KY.out.lt
      obtain ⟨cc5_50, cc5_51, cc5_52, -, -, -⟩ := KZ.out.all
      have ll5_5 := KZ.out.lt
      rcases Bool.eq_false_or_eq_true mY.ok with hgY | hgY
      rotate_left
      · rw [hgY]
        obtain ⟨cc6_00, cc6_01, cc6_02, -, -, -⟩ := KA.out.all
        have ll6_0 := KA.out.lt
        obtain ⟨cc6_10, cc6_11, cc6_12, -, -, -⟩ := KB.out.all
        have ll6_1 := KB.out.lt
        obtain ⟨cc6_20, cc6_21, cc6_22, -, -, -⟩ := KM.out.all
        have ll6_2 := KM.out.lt
        obtain ⟨cc6_30, cc6_31, cc6_32, -, -, -⟩ := KX.out.all
        have ll6_3 := KX.out.lt
        obtain ⟨cc6_40, cc6_41, cc6_42, -, -, -⟩ := KY.out.all
        have ll6_4 := KY.out.lt
        obtain ⟨cc6_50, cc6_51, cc6_52, -, -, -⟩ := KZ.out.all
        have ll6_5 := KZ.out.lt
        go_wp2_with (fail)
        obtain ⟨mS, hS⟩ : ∃ m, addM K C ys K C ys = m := ⟨_, rfl⟩
        have HS := Lib.hid hS
        clear hS
        refine (iAdd K C K C q2 q2 qc2 qc2 ys ys _ (OB.out.old _).rd (OB.out.old _).rd n2 n2).mono ?_
        rintro e w7 ⟨vS, rfl, own, hb⟩
        rw [HS.out] at own ⊢
        obtain ⟨qS, qcS, rfl, -, -⟩ := own.form
        have nS := own.small
        have OA := Lib.hid ((OA.out.old _).keep hb)
        have OB := Lib.hid ((OB.out.old _).keep hb)
        have KA := Lib.hid ((KA.out.old _).step hb)
        have KB := Lib.hid ((KB.out.old _).step hb)
        have OM := Lib.hid ((OM.out.old _).keep hb)
        have KM := Lib.hid ((KM.out.old _).step hb)
        have OX := Lib.hid ((OX.out.old _).keep hb)
        have KX := Lib.hid ((KX.out.old _).step hb)
        have OY := Lib.hid ((OY.out.old _).keep hb)
        have KY := Lib.hid ((KY.out.old _).step hb)
        have OZ := Lib.hid ((OZ.out.old _).keep hb)
        have KZ := Lib.hid ((KZ.out.old _).step hb)
        have OW := Lib.hid ((OW.out.old _).keep hb)
        have KW : Hid (Blk3 w7 w6.heap.size 26 (.int .i64 (mW.r)) (.int .i64 (mW.c)) (.slice qW mW.zs.length qcW)) := (Blk3.at_ _ _ _ _ rfl).step hb
        have B := Lib.hid (stepB (B.out.alloc B.out.size _) hb)
        clear hb
        have OS := Lib.hid (own.le (Nat.zero_le _))
        clear own
        obtain ⟨cc7_00, cc7_01, cc7_02, -, -, -⟩ := KA.out.all
        have ll7_0 := KA.out.lt
        obtain ⟨cc7_10, cc7_11, cc7_12, -, -, -⟩ := KB.out.all
        have ll7_1 := KB.out.lt
        obtain ⟨cc7_20, cc7_21, cc7_22, -, -, -⟩ := KM.out.all
        have ll7_2 := KM.out.lt
        obtain ⟨cc7_30, cc7_31, cc7_32, -, -, -⟩ := KX.out.all
        have ll7_3 := KX.out.lt
        obtain ⟨cc7_40, cc7_41, cc7_42, -, -, -⟩ := KY.out.all
        have ll7_4 := KY.out.lt
        obtain ⟨cc7_50, cc7_51, cc7_52, -, -, -⟩ := KZ.out.all
        have ll7_5 := KZ.out.lt
        obtain ⟨cc7_60, cc7_61, cc7_62, -, -, -⟩ := KW.out.all
        have ll7_6 := KW.out.lt
        go_wp2_with (fail)
        obtain ⟨mT, hT⟩ : ∃ m, mulM R K xs mS.r mS.c mS.zs = m := ⟨_, rfl⟩
        have HT := Lib.hid hT
        clear hT
        refine (iMul R K mS.r mS.c q1 qS qc1 qcS xs mS.zs _ (OA.out.old _).rd (OS.out.old _).rd n1 nS).mono ?_
        rintro e w8 ⟨vT, rfl, own, hb⟩
        rw [HT.out] at own ⊢
        obtain ⟨qT, qcT, rfl, -, -⟩ := own.form
        have nT := own.small
        have OA := Lib.hid ((OA.out.old _).keep hb)
        have OB := Lib.hid ((OB.out.old _).keep hb)
        have KA := Lib.hid ((KA.out.old _).step hb)
        have KB := Lib.hid ((KB.out.old _).step hb)
        have OM := Lib.hid ((OM.out.old _).keep hb)
        have KM := Lib.hid ((KM.out.old _).step hb)
        have OX := Lib.hid ((OX.out.old _).keep hb)
        have KX := Lib.hid ((KX.out.old _).step hb)
        have OY := Lib.hid ((OY.out.old _).keep hb)
        have KY := Lib.hid ((KY.out.old _).step hb)
        have OZ := Lib.hid ((OZ.out.old _).keep hb)
        have KZ := Lib.hid ((KZ.out.old _).step hb)
        have OW := Lib.hid ((OW.out.old _).keep hb)
        have KW := Lib.hid ((KW.out.old _).step hb)
        have OS := Lib.hid ((OS.out.old _).keep hb)
        have KS : Hid (Blk3 w8 w7.heap.size 26 (.int .i64 (mS.r)) (.int .i64 (mS.c)) (.slice qS mS.zs.length qcS)) := (Blk3.at_ _ _ _ _ rfl).step hb
        have B := Lib.hid (stepB (B.out.alloc B.out.size _) hb)
        clear hb
        have OT := Lib.hid (own.le (Nat.zero_le _))
        clear own
        obtain ⟨cc8_00, cc8_01, cc8_02, -, -, -⟩ := KA.out.all
        have ll8_0 := KA.out.lt
        obtain ⟨cc8_10, cc8_11, cc8_12, -, -, -⟩ := KB.out.all
        have ll8_1 := KB.out.lt
        obtain ⟨cc8_20, cc8_21, cc8_22, -, -, -⟩ := KM.out.all
        have ll8_2 := KM.out.lt
        obtain ⟨cc8_30, cc8_31, cc8_32, -, -, -⟩ := KX.out.all
        have ll8_3 := KX.out.lt
        obtain ⟨cc8_40, cc8_41, cc8_42, -, -, -⟩ := KY.out.all
        have ll8_4 := KY.out.lt
        obtain ⟨cc8_50, cc8_51, cc8_52, -, -, -⟩ := KZ.out.all
        have ll8_5 := KZ.out.lt
        obtain ⟨cc8_60, cc8_61, cc8_62, -, -, -⟩ := KW.out.all
        have ll8_6 := KW.out.lt
        obtain ⟨cc8_70, cc8_71, cc8_72, -, -, -⟩ := KS.out.all
        have ll8_7 := KS.out.lt
        go_wp2_with (fail)
        obtain ⟨mU, hU⟩ : ∃ m, addM R C X R C X = m := ⟨_, rfl⟩
        have HU := Lib.hid hU
        clear hU
        refine (iAdd R C R C qX qX qcX qcX X X _ (OX.out.old _).rd (OX.out.old _).rd lX lX).mono ?_
        rintro e w9 ⟨vU, rfl, own, hb⟩
        rw [HU.out] at own ⊢
        obtain ⟨qU, qcU, rfl, -, -⟩ := own.form
        have nU := own.small
        have OA := Lib.hid ((OA.out.old _).keep hb)
        have OB := Lib.hid ((OB.out.old _).keep hb)
        have KA := Lib.hid ((KA.out.old _).step hb)
        have KB := Lib.hid ((KB.out.old _).step hb)
        have OM := Lib.hid ((OM.out.old _).keep hb)
        have KM := Lib.hid ((KM.out.old _).step hb)
        have OX := Lib.hid ((OX.out.old _).keep hb)
        have KX := Lib.hid ((KX.out.old _).step hb)
        have OY := Lib.hid ((OY.out.old _).keep hb)
        have KY := Lib.hid ((KY.out.old _).step hb)
        have OZ := Lib.hid ((OZ.out.old _).keep hb)
        have KZ := Lib.hid ((KZ.out.old _).step hb)
        have OW := Lib.hid ((OW.out.old _).keep hb)
        have KW := Lib.hid ((KW.out.old _).step hb)
        have OS := Lib.hid ((OS.out.old _).keep hb)
        have KS := Lib.hid ((KS.out.old _).step hb)
        have OT := Lib.hid ((OT.out.old _).keep hb)
        have KT : Hid (Blk3 w9 w8.heap.size 26 (.int .i64 (mT.r)) (.int .i64 (mT.c)) (.slice qT mT.zs.length qcT)) := (Blk3.at_ _ _ _ _ rfl).step hb
        have B := Lib.hid (stepB (B.out.alloc B.out.size _) hb)
        clear hb
        have OU := Lib.hid (own.le (Nat.zero_le _))
        clear own
        obtain ⟨cc9_00, cc9_01, cc9_02, -, -, -⟩ := KA.out.all
        have ll9_0 := KA.out.lt
        obtain ⟨cc9_10, cc9_11, cc9_12, -, -, -⟩ := KB.out.all
        have ll9_1 := KB.out.lt
        obtain ⟨cc9_20, cc9_21, cc9_22, -, -, -⟩ := KM.out.all
        have ll9_2 := KM.out.lt
        obtain ⟨cc9_30, cc9_31, cc9_32, -, -, -⟩ := KX.out.all
        have ll9_3 := KX.out.lt
        obtain ⟨cc9_40, cc9_41, cc9_42, -, -, -⟩ := KY.out.all
        have ll9_4 := KY.out.lt
        obtain ⟨cc9_50, cc9_51, cc9_52, -, -, -⟩ := KZ.out.all
        have ll9_5 := KZ.out.lt
        obtain ⟨cc9_60, cc9_61, cc9_62, -, -, -⟩ := KW.out.all
        have ll9_6 := KW.out.lt
        obtain ⟨cc9_70, cc9_71, cc9_72, -, -, -⟩ := KS.out.all
        have ll9_7 := KS.out.lt
        obtain ⟨cc9_80, cc9_81, cc9_82, -, -, -⟩ := KT.out.all
        have ll9_8 := KT.out.lt
        go_wp2_with (fail)
        obtain ⟨mV, hV⟩ : ∃ m, scaleM R C X 2 = m := ⟨_, rfl⟩
        have HV := Lib.hid hV
        clear hV
        refine (iScale R C qX qcX X 2 _ (OX.out.old _).rd lX).mono ?_
        rintro e w10 ⟨vV, rfl, own, hb⟩
        rw [HV.out] at own ⊢
        obtain ⟨qV, qcV, rfl, -, -⟩ := own.form
        have nV := own.small
        have OA := Lib.hid ((OA.out.old _).keep hb)
        have OB := Lib.hid ((OB.out.old _).keep hb)
        have KA := Lib.hid ((KA.out.old _).step hb)
        have KB := Lib.hid ((KB.out.old _).step hb)
        have OM := Lib.hid ((OM.out.old _).keep hb)
        have KM := Lib.hid ((KM.out.old _).step hb)
        have OX := Lib.hid ((OX.out.old _).keep hb)
        have KX := Lib.hid ((KX.out.old _).step hb)
        have OY := Lib.hid ((OY.out.old _).keep hb)
        have KY := Lib.hid ((KY.out.old _).step hb)
        have OZ := Lib.hid ((OZ.out.old _).keep hb)
        have KZ := Lib.hid ((KZ.out.old _).step hb)
        have OW := Lib.hid ((OW.out.old _).keep hb)
        have KW := Lib.hid ((KW.out.old _).step hb)
        have OS := Lib.hid ((OS.out.old _).keep hb)
        have KS := Lib.hid ((KS.out.old _).step hb)
        have OT := Lib.hid ((OT.out.old _).keep hb)
        have KT := Lib.hid ((KT.out.old _).step hb)
        have OU := Lib.hid ((OU.out.old _).keep hb)
        have KU : Hid (Blk3 w10 w9.heap.size 26 (.int .i64 (mU.r)) (.int .i64 (mU.c)) (.slice qU mU.zs.length qcU)) := (Blk3.at_ _ _ _ _ rfl).step hb
        have B := Lib.hid (stepB (B.out.alloc B.out.size _) hb)
        clear hb
        have OV := Lib.hid (own.le (Nat.zero_le _))
        clear own
        obtain ⟨cc10_00, cc10_01, cc10_02, -, -, -⟩ := KA.out.all
        have ll10_0 := KA.out.lt
        obtain ⟨cc10_10, cc10_11, cc10_12, -, -, -⟩ := KB.out.all
        have ll10_1 := KB.out.lt
        obtain ⟨cc10_20, cc10_21, cc10_22, -, -, -⟩ := KM.out.all
        have ll10_2 := KM.out.lt
        obtain ⟨cc10_30, cc10_31, cc10_32, -, -, -⟩ := KX.out.all
        have ll10_3 := KX.out.lt
        obtain ⟨cc10_40, cc10_41, cc10_42, -, -, -⟩ := KY.out.all
        have ll10_4 := KY.out.lt
        obtain ⟨cc10_50, cc10_51, cc10_52, -, -, -⟩ := KZ.out.all
        have ll10_5 := KZ.out.lt
        obtain ⟨cc10_60, cc10_61, cc10_62, -, -, -⟩ := KW.out.all
        have ll10_6 := KW.out.lt
        obtain ⟨cc10_70, cc10_71, cc10_72, -, -, -⟩ := KS.out.all
        have ll10_7 := KS.out.lt
        obtain ⟨cc10_80, cc10_81, cc10_82, -, -, -⟩ := KT.out.all
        have ll10_8 := KT.out.lt
        obtain ⟨cc10_90, cc10_91, cc10_92, -, -, -⟩ := KU.out.all
        have ll10_9 := KU.out.lt
        rcases Bool.eq_false_or_eq_true mS.ok with hfS | hfS
        rotate_left
        · rw [hfS]
          obtain ⟨cc11_00, cc11_01, cc11_02, -, -, -⟩ := KA.out.all
          have ll11_0 := KA.out.lt
          obtain ⟨cc11_10, cc11_11, cc11_12, -, -, -⟩ := KB.out.all
          have ll11_1 := KB.out.lt
          obtain ⟨cc11_20, cc11_21, cc11_22, -, -, -⟩ := KM.out.all
          have ll11_2 := KM.out.lt
          obtain ⟨cc11_30, cc11_31, cc11_32, -, -, -⟩ := KX.out.all
          have ll11_3 := KX.out.lt
          obtain ⟨cc11_40, cc11_41, cc11_42, -, -, -⟩ := KY.out.all
          have ll11_4 := KY.out.lt
          obtain ⟨cc11_50, cc11_51, cc11_52, -, -, -⟩ := KZ.out.all
          have ll11_5 := KZ.out.lt
          obtain ⟨cc11_60, cc11_61, cc11_62, -, -, -⟩ := KW.out.all
          have ll11_6 := KW.out.lt
          obtain ⟨cc11_70, cc11_71, cc11_72, -, -, -⟩ := KS.out.all
          have ll11_7 := KS.out.lt
          obtain ⟨cc11_80, cc11_81, cc11_82, -, -, -⟩ := KT.out.all
          have ll11_8 := KT.out.lt
          obtain ⟨cc11_90, cc11_91, cc11_92, -, -, -⟩ := KU.out.all
          have ll11_9 := KU.out.lt
          go_wp2_with (fail)
          go_ret
          exact ⟨rfl, (B.out.alloc B.out.size _)⟩
        rw [hfS]
        rcases Bool.eq_false_or_eq_true mT.ok with hfT | hfT
        rotate_left
        · rw [hfT]
          obtain ⟨cc11_00, cc11_01, cc11_02, -, -, -⟩ := KA.out.all
          have ll11_0 := KA.out.lt
          obtain ⟨cc11_10, cc11_11, cc11_12, -, -, -⟩ := KB.out.all
          have ll11_1 := KB.out.lt
          obtain ⟨cc11_20, cc11_21, cc11_22, -, -, -⟩ := KM.out.all
          have ll11_2 := KM.out.lt
          obtain ⟨cc11_30, cc11_31, cc11_32, -, -, -⟩ := KX.out.all
          have ll11_3 := KX.out.lt
          obtain ⟨cc11_40, cc11_41, cc11_42, -, -, -⟩ := KY.out.all
          have ll11_4 := KY.out.lt
          obtain ⟨cc11_50, cc11_51, cc11_52, -, -, -⟩ := KZ.out.all
          have ll11_5 := KZ.out.lt
          obtain ⟨cc11_60, cc11_61, cc11_62, -, -, -⟩ := KW.out.all
          have ll11_6 := KW.out.lt
          obtain ⟨cc11_70, cc11_71, cc11_72, -, -, -⟩ := KS.out.all
          have ll11_7 := KS.out.lt
          obtain ⟨cc11_80, cc11_81, cc11_82, -, -, -⟩ := KT.out.all
          have ll11_8 := KT.out.lt
          obtain ⟨cc11_90, cc11_91, cc11_92, -, -, -⟩ := KU.out.all
          have ll11_9 := KU.out.lt
          go_wp2_with (fail)
          go_ret
          exact ⟨rfl, (B.out.alloc B.out.size _)⟩
        rw [hfT]
        rcases Bool.eq_false_or_eq_true mU.ok with hfU | hfU
        rotate_left
        · rw [hfU]
          obtain ⟨cc11_00, cc11_01, cc11_02, -, -, -⟩ := KA.out.all
          have ll11_0 := KA.out.lt
          obtain ⟨cc11_10, cc11_11, cc11_12, -, -, -⟩ := KB.out.all
          have ll11_1 := KB.out.lt
          obtain ⟨cc11_20, cc11_21, cc11_22, -, -, -⟩ := KM.out.all
          have ll11_2 := KM.out.lt
          obtain ⟨cc11_30, cc11_31, cc11_32, -, -, -⟩ := KX.out.all
          have ll11_3 := KX.out.lt
          obtain ⟨cc11_40, cc11_41, cc11_42, -, -, -⟩ := KY.out.all
          have ll11_4 := KY.out.lt
          obtain ⟨cc11_50, cc11_51, cc11_52, -, -, -⟩ := KZ.out.all
          have ll11_5 := KZ.out.lt
          obtain ⟨cc11_60, cc11_61, cc11_62, -, -, -⟩ := KW.out.all
          have ll11_6 := KW.out.lt
          obtain ⟨cc11_70, cc11_71, cc11_72, -, -, -⟩ := KS.out.all
          have ll11_7 := KS.out.lt
          obtain ⟨cc11_80, cc11_81, cc11_82, -, -, -⟩ := KT.out.all
          have ll11_8 := KT.out.lt
          obtain ⟨cc11_90, cc11_91, cc11_92, -, -, -⟩ := KU.out.all
          have ll11_9 := KU.out.lt
          go_wp2_with (fail)
          go_ret
          exact ⟨rfl, (B.out.alloc B.out.size _)⟩
        rw [hfU]
        rcases Bool.eq_false_or_eq_true mV.ok with hfV | hfV
        rotate_left
        · rw [hfV]
          obtain ⟨cc11_00, cc11_01, cc11_02, -, -, -⟩ := KA.out.all
          have ll11_0 := KA.out.lt
          obtain ⟨cc11_10, cc11_11, cc11_12, -, -, -⟩ := KB.out.all
          have ll11_1 := KB.out.lt
          obtain ⟨cc11_20, cc11_21, cc11_22, -, -, -⟩ := KM.out.all
          have ll11_2 := KM.out.lt
          obtain ⟨cc11_30, cc11_31, cc11_32, -, -, -⟩ := KX.out.all
          have ll11_3 := KX.out.lt
          obtain ⟨cc11_40, cc11_41, cc11_42, -, -, -⟩ := KY.out.all
          have ll11_4 := KY.out.lt
          obtain ⟨cc11_50, cc11_51, cc11_52, -, -, -⟩ := KZ.out.all
          have ll11_5 := KZ.out.lt
          obtain ⟨cc11_60, cc11_61, cc11_62, -, -, -⟩ := KW.out.all
          have ll11_6 := KW.out.lt
          obtain ⟨cc11_70, cc11_71, cc11_72, -, -, -⟩ := KS.out.all
          have ll11_7 := KS.out.lt
          obtain ⟨cc11_80, cc11_81, cc11_82, -, -, -⟩ := KT.out.all
          have ll11_8 := KT.out.lt
          obtain ⟨cc11_90, cc11_91, cc11_92, -, -, -⟩ := KU.out.all
          have ll11_9 := KU.out.lt
          go_wp2_with (fail)
          go_ret
          exact ⟨rfl, (B.out.alloc B.out.size _)⟩
        rw [hfV]
        obtain ⟨eT, eU⟩ := ring_dist (xs := xs) (v := mV) (u := mU) H2.out H3.out HS.out HT.out (by rw [XH.out]; exact HU.out) (by rw [XH.out]; exact HV.out) hfS hfT hfU
        skip
        have ET := Lib.hid eT
        have EU := Lib.hid eU
        clear eT eU
        obtain ⟨cc11_00, cc11_01, cc11_02, -, -, -⟩ := KA.out.all
        have ll11_0 := KA.out.lt
        obtain ⟨cc11_10, cc11_11, cc11_12, -, -, -⟩ := KB.out.all
        have ll11_1 := KB.out.lt
        obtain ⟨cc11_20, cc11_21, cc11_22, -, -, -⟩ := KM.out.all
        have ll11_2 := KM.out.lt
        obtain ⟨cc11_30, cc11_31, cc11_32, -, -, -⟩ := KX.out.all
        have ll11_3 := KX.out.lt
        obtain ⟨cc11_40, cc11_41, cc11_42, -, -, -⟩ := KY.out.all
        have ll11_4 := KY.out.lt
        obtain ⟨cc11_50, cc11_51, cc11_52, -, -, -⟩ := KZ.out.all
        have ll11_5 := KZ.out.lt
        obtain ⟨cc11_60, cc11_61, cc11_62, -, -, -⟩ := KW.out.all
        have ll11_6 := KW.out.lt
        obtain ⟨cc11_70, cc11_71, cc11_72, -, -, -⟩ := KS.out.all
        have ll11_7 := KS.out.lt
        obtain ⟨cc11_80, cc11_81, cc11_82, -, -, -⟩ := KT.out.all
        have ll11_8 := KT.out.lt
        obtain ⟨cc11_90, cc11_91, cc11_92, -, -, -⟩ := KU.out.all
        have ll11_9 := KU.out.lt
        go_wp2_with (fail)
        refine (sSameE mT mU qT qU qcT qcU _ ET.out (OT.out.old _).rd (OU.out.old _).rd nT).mono ?_
        rintro e w11 ⟨rfl, hb⟩
        have OA := Lib.hid ((OA.out.old _).keep hb)
        have OB := Lib.hid ((OB.out.old _).keep hb)
        have KA := Lib.hid ((KA.out.old _).step hb)
        have KB := Lib.hid ((KB.out.old _).step hb)
        have OM := Lib.hid ((OM.out.old _).keep hb)
        have KM := Lib.hid ((KM.out.old _).step hb)
        have OX := Lib.hid ((OX.out.old _).keep hb)
        have KX := Lib.hid ((KX.out.old _).step hb)
        have OY := Lib.hid ((OY.out.old _).keep hb)
        have KY := Lib.hid ((KY.out.old _).step hb)
        have OZ := Lib.hid ((OZ.out.old _).keep hb)
        have KZ := Lib.hid ((KZ.out.old _).step hb)
        have OW := Lib.hid ((OW.out.old _).keep hb)
        have KW := Lib.hid ((KW.out.old _).step hb)
        have OS := Lib.hid ((OS.out.old _).keep hb)
        have KS := Lib.hid ((KS.out.old _).step hb)
        have OT := Lib.hid ((OT.out.old _).keep hb)
        have KT := Lib.hid ((KT.out.old _).step hb)
        have OU := Lib.hid ((OU.out.old _).keep hb)
        have KU := Lib.hid ((KU.out.old _).step hb)
        have OV := Lib.hid ((OV.out.old _).keep hb)
        have KV : Hid (Blk3 w11 w10.heap.size 26 (.int .i64 (mV.r)) (.int .i64 (mV.c)) (.slice qV mV.zs.length qcV)) := (Blk3.at_ _ _ _ _ rfl).step hb
        have B := Lib.hid (stepB (B.out.alloc B.out.size _) hb)
        clear hb
        obtain ⟨cc12_00, cc12_01, cc12_02, -, -, -⟩ := KA.out.all
        have ll12_0 := KA.out.lt
        obtain ⟨cc12_10, cc12_11, cc12_12, -, -, -⟩ := KB.out.all
        have ll12_1 := KB.out.lt
        obtain ⟨cc12_20, cc12_21, cc12_22, -, -, -⟩ := KM.out.all
        have ll12_2 := KM.out.lt
        obtain ⟨cc12_30, cc12_31, cc12_32, -, -, -⟩ := KX.out.all
        have ll12_3 := KX.out.lt
        obtain ⟨cc12_40, cc12_41, cc12_42, -, -, -⟩ := KY.out.all
        have ll12_4 := KY.out.lt
        obtain ⟨cc12_50, cc12_51, cc12_52, -, -, -⟩ := KZ.out.all
        have ll12_5 := KZ.out.lt
        obtain ⟨cc12_60, cc12_61, cc12_62, -, -, -⟩ := KW.out.all
        have ll12_6 := KW.out.lt
        obtain ⟨cc12_70, cc12_71, cc12_72, -, -, -⟩ := KS.out.all
        have ll12_7 := KS.out.lt
        obtain ⟨cc12_80, cc12_81, cc12_82, -, -, -⟩ := KT.out.all
        have ll12_8 := KT.out.lt
        obtain ⟨cc12_90, cc12_91, cc12_92, -, -, -⟩ := KU.out.all
        have ll12_9 := KU.out.lt
        obtain ⟨cc12_100, cc12_101, cc12_102, -, -, -⟩ := KV.out.all
        have ll12_10 := KV.out.lt
        go_wp2_with (fail)
        refine (iSameE mU mV qU qV qcU qcV _ EU.out OU.out.rd OV.out.rd nU nV).mono ?_
        rintro e w12 ⟨rfl, hb⟩
        have OA := Lib.hid (OA.out.keep hb)
        have OB := Lib.hid (OB.out.keep hb)
        have KA := Lib.hid (KA.out.step hb)
        have KB := Lib.hid (KB.out.step hb)
        have OM := Lib.hid (OM.out.keep hb)
        have KM := Lib.hid (KM.out.step hb)
        have OX := Lib.hid (OX.out.keep hb)
        have KX := Lib.hid (KX.out.step hb)
        have OY := Lib.hid (OY.out.keep hb)
        have KY := Lib.hid (KY.out.step hb)
        have OZ := Lib.hid (OZ.out.keep hb)
        have KZ := Lib.hid (KZ.out.step hb)
        have OW := Lib.hid (OW.out.keep hb)
        have KW := Lib.hid (KW.out.step hb)
        have OS := Lib.hid (OS.out.keep hb)
        have KS := Lib.hid (KS.out.step hb)
        have OT := Lib.hid (OT.out.keep hb)
        have KT := Lib.hid (KT.out.step hb)
        have OU := Lib.hid (OU.out.keep hb)
        have KU := Lib.hid (KU.out.step hb)
        have OV := Lib.hid (OV.out.keep hb)
        have KV := Lib.hid (KV.out.step hb)
        have B := Lib.hid (stepB B.out hb)
        clear hb
        obtain ⟨cc13_00, cc13_01, cc13_02, -, -, -⟩ := KA.out.all
        have ll13_0 := KA.out.lt
        obtain ⟨cc13_10, cc13_11, cc13_12, -, -, -⟩ := KB.out.all
        have ll13_1 := KB.out.lt
        obtain ⟨cc13_20, cc13_21, cc13_22, -, -, -⟩ := KM.out.all
        have ll13_2 := KM.out.lt
        obtain ⟨cc13_30, cc13_31, cc13_32, -, -, -⟩ := KX.out.all
        have ll13_3 := KX.out.lt
        obtain ⟨cc13_40, cc13_41, cc13_42, -, -, -⟩ := KY.out.all
        have ll13_4 := KY.out.lt
        obtain ⟨cc13_50, cc13_51, cc13_52, -, -, -⟩ := KZ.out.all
        have ll13_5 := KZ.out.lt
        obtain ⟨cc13_60, cc13_61, cc13_62, -, -, -⟩ := KW.out.all
        have ll13_6 := KW.out.lt
        obtain ⟨cc13_70, cc13_71, cc13_72, -, -, -⟩ := KS.out.all
        have ll13_7 := KS.out.lt
        obtain ⟨cc13_80, cc13_81, cc13_82, -, -, -⟩ := KT.out.all
        have ll13_8 := KT.out.lt
        obtain ⟨cc13_90, cc13_91, cc13_92, -, -, -⟩ := KU.out.all
        have ll13_9 := KU.out.lt
        obtain ⟨cc13_100, cc13_101, cc13_102, -, -, -⟩ := KV.out.all
        have ll13_10 := KV.out.lt
        go_wp2_with (fail)
        go_ret
        exact ⟨rfl, B.out⟩
      rw [hgY]
      rcases Bool.eq_false_or_eq_true mZ.ok with hgZ | hgZ
      rotate_left
      · rw [hgZ]
        obtain ⟨cc6_00, cc6_01, cc6_02, -, -, -⟩ := KA.out.all
        have ll6_0 := KA.out.lt
        obtain ⟨cc6_10, cc6_11, cc6_12, -, -, -⟩ := KB.out.all
        have ll6_1 := KB.out.lt
        obtain ⟨cc6_20, cc6_21, cc6_22, -, -, -⟩ := KM.out.all
        have ll6_2 := KM.out.lt
        obtain ⟨cc6_30, cc6_31, cc6_32, -, -, -⟩ := KX.out.all
        have ll6_3 := KX.out.lt
        obtain ⟨cc6_40, cc6_41, cc6_42, -, -, -⟩ := KY.out.all
        have ll6_4 := KY.out.lt
        obtain ⟨cc6_50, cc6_51, cc6_52, -, -, -⟩ := KZ.out.all
        have ll6_5 := KZ.out.lt
        go_wp2_with (fail)
        obtain ⟨mS, hS⟩ : ∃ m, addM K C ys K C ys = m := ⟨_, rfl⟩
        have HS := Lib.hid hS
        clear hS
        refine (iAdd K C K C q2 q2 qc2 qc2 ys ys _ (OB.out.old _).rd (OB.out.old _).rd n2 n2).mono ?_
        rintro e w7 ⟨vS, rfl, own, hb⟩
        rw [HS.out] at own ⊢
        obtain ⟨qS, qcS, rfl, -, -⟩ := own.form
        have nS := own.small
        have OA := Lib.hid ((OA.out.old _).keep hb)
        have OB := Lib.hid ((OB.out.old _).keep hb)
        have KA := Lib.hid ((KA.out.old _).step hb)
        have KB := Lib.hid ((KB.out.old _).step hb)
        have OM := Lib.hid ((OM.out.old _).keep hb)
        have KM := Lib.hid ((KM.out.old _).step hb)
        have OX := Lib.hid ((OX.out.old _).keep hb)
        have KX := Lib.hid ((KX.out.old _).step hb)
        have OY := Lib.hid ((OY.out.old _).keep hb)
        have KY := Lib.hid ((KY.out.old _).step hb)
        have OZ := Lib.hid ((OZ.out.old _).keep hb)
        have KZ := Lib.hid ((KZ.out.old _).step hb)
        have OW := Lib.hid ((OW.out.old _).keep hb)
        have KW : Hid (Blk3 w7 w6.heap.size 26 (.int .i64 (mW.r)) (.int .i64 (mW.c)) (.slice qW mW.zs.length qcW)) := (Blk3.at_ _ _ _ _ rfl).step hb
        have B := Lib.hid (stepB (B.out.alloc B.out.size _) hb)
        clear hb
        have OS := Lib.hid (own.le (Nat.zero_le _))
        clear own
        obtain ⟨cc7_00, cc7_01, cc7_02, -, -, -⟩ := KA.out.all
        have ll7_0 := KA.out.lt
        obtain ⟨cc7_10, cc7_11, cc7_12, -, -, -⟩ := KB.out.all
        have ll7_1 := KB.out.lt
        obtain ⟨cc7_20, cc7_21, cc7_22, -, -, -⟩ := KM.out.all
        have ll7_2 := KM.out.lt
        obtain ⟨cc7_30, cc7_31, cc7_32, -, -, -⟩ := KX.out.all
        have ll7_3 := KX.out.lt
        obtain ⟨cc7_40, cc7_41, cc7_42, -, -, -⟩ := KY.out.all
        have ll7_4 := KY.out.lt
        obtain ⟨cc7_50, cc7_51, cc7_52, -, -, -⟩ := KZ.out.all
        have ll7_5 := KZ.out.lt
        obtain ⟨cc7_60, cc7_61, cc7_62, -, -, -⟩ := KW.out.all
        have ll7_6 := KW.out.lt
        go_wp2_with (fail)
        obtain ⟨mT, hT⟩ : ∃ m, mulM R K xs mS.r mS.c mS.zs = m := ⟨_, rfl⟩
        have HT := Lib.hid hT
        clear hT
        refine (iMul R K mS.r mS.c q1 qS qc1 qcS xs mS.zs _ (OA.out.old _).rd (OS.out.old _).rd n1 nS).mono ?_
        rintro e w8 ⟨vT, rfl, own, hb⟩
        rw [HT.out] at own ⊢
        obtain ⟨qT, qcT, rfl, -, -⟩ := own.form
        have nT := own.small
        have OA := Lib.hid ((OA.out.old _).keep hb)
        have OB := Lib.hid ((OB.out.old _).keep hb)
        have KA := Lib.hid ((KA.out.old _).step hb)
        have KB := Lib.hid ((KB.out.old _).step hb)
        have OM := Lib.hid ((OM.out.old _).keep hb)
        have KM := Lib.hid ((KM.out.old _).step hb)
        have OX := Lib.hid ((OX.out.old _).keep hb)
        have KX := Lib.hid ((KX.out.old _).step hb)
        have OY := Lib.hid ((OY.out.old _).keep hb)
        have KY := Lib.hid ((KY.out.old _).step hb)
        have OZ := Lib.hid ((OZ.out.old _).keep hb)
        have KZ := Lib.hid ((KZ.out.old _).step hb)
        have OW := Lib.hid ((OW.out.old _).keep hb)
        have KW := Lib.hid ((KW.out.old _).step hb)
        have OS := Lib.hid ((OS.out.old _).keep hb)
        have KS : Hid (Blk3 w8 w7.heap.size 26 (.int .i64 (mS.r)) (.int .i64 (mS.c)) (.slice qS mS.zs.length qcS)) := (Blk3.at_ _ _ _ _ rfl).step hb
        have B := Lib.hid (stepB (B.out.alloc B.out.size _) hb)
        clear hb
        have OT := Lib.hid (own.le (Nat.zero_le _))
        clear own
        obtain ⟨cc8_00, cc8_01, cc8_02, -, -, -⟩ := KA.out.all
        have ll8_0 := KA.out.lt
        obtain ⟨cc8_10, cc8_11, cc8_12, -, -, -⟩ := KB.out.all
        have ll8_1 := KB.out.lt
        obtain ⟨cc8_20, cc8_21, cc8_22, -, -, -⟩ := KM.out.all
        have ll8_2 := KM.out.lt
        obtain ⟨cc8_30, cc8_31, cc8_32, -, -, -⟩ := KX.out.all
        have ll8_3 := KX.out.lt
        obtain ⟨cc8_40, cc8_41, cc8_42, -, -, -⟩ := KY.out.all
        have ll8_4 := KY.out.lt
        obtain ⟨cc8_50, cc8_51, cc8_52, -, -, -⟩ := KZ.out.all
        have ll8_5 := KZ.out.lt
        obtain ⟨cc8_60, cc8_61, cc8_62, -, -, -⟩ := KW.out.all
        have ll8_6 := KW.out.lt
        obtain ⟨cc8_70, cc8_71, cc8_72, -, -, -⟩ := KS.out.all
        have ll8_7 := KS.out.lt
        go_wp2_with (fail)
        obtain ⟨mU, hU⟩ : ∃ m, addM R C X R C X = m := ⟨_, rfl⟩
        have HU := Lib.hid hU
        clear hU
        refine (iAdd R C R C qX qX qcX qcX X X _ (OX.out.old _).rd (OX.out.old _).rd lX lX).mono ?_
        rintro e w9 ⟨vU, rfl, own, hb⟩
        rw [HU.out] at own ⊢
        obtain ⟨qU, qcU, rfl, -, -⟩ := own.form
        have nU := own.small
        have OA := Lib.hid ((OA.out.old _).keep hb)
        have OB := Lib.hid ((OB.out.old _).keep hb)
        have KA := Lib.hid ((KA.out.old _).step hb)
        have KB := Lib.hid ((KB.out.old _).step hb)
        have OM := Lib.hid ((OM.out.old _).keep hb)
        have KM := Lib.hid ((KM.out.old _).step hb)
        have OX := Lib.hid ((OX.out.old _).keep hb)
        have KX := Lib.hid ((KX.out.old _).step hb)
        have OY := Lib.hid ((OY.out.old _).keep hb)
        have KY := Lib.hid ((KY.out.old _).step hb)
        have OZ := Lib.hid ((OZ.out.old _).keep hb)
        have KZ := Lib.hid ((KZ.out.old _).step hb)
        have OW := Lib.hid ((OW.out.old _).keep hb)
        have KW := Lib.hid ((KW.out.old _).step hb)
        have OS := Lib.hid ((OS.out.old _).keep hb)
        have KS := Lib.hid ((KS.out.old _).step hb)
        have OT := Lib.hid ((OT.out.old _).keep hb)
        have KT : Hid (Blk3 w9 w8.heap.size 26 (.int .i64 (mT.r)) (.int .i64 (mT.c)) (.slice qT mT.zs.length qcT)) := (Blk3.at_ _ _ _ _ rfl).step hb
        have B := Lib.hid (stepB (B.out.alloc B.out.size _) hb)
        clear hb
        have OU := Lib.hid (own.le (Nat.zero_le _))
        clear own
        obtain ⟨cc9_00, cc9_01, cc9_02, -, -, -⟩ := KA.out.all
        have ll9_0 := KA.out.lt
        obtain ⟨cc9_10, cc9_11, cc9_12, -, -, -⟩ := KB.out.all
        have ll9_1 := KB.out.lt
        obtain ⟨cc9_20, cc9_21, cc9_22, -, -, -⟩ := KM.out.all
        have ll9_2 := KM.out.lt
        obtain ⟨cc9_30, cc9_31, cc9_32, -, -, -⟩ := KX.out.all
        have ll9_3 := KX.out.lt
        obtain ⟨cc9_40, cc9_41, cc9_42, -, -, -⟩ := KY.out.all
        have ll9_4 := KY.out.lt
        obtain ⟨cc9_50, cc9_51, cc9_52, -, -, -⟩ := KZ.out.all
        have ll9_5 := KZ.out.lt
        obtain ⟨cc9_60, cc9_61, cc9_62, -, -, -⟩ := KW.out.all
        have ll9_6 := KW.out.lt
        obtain ⟨cc9_70, cc9_71, cc9_72, -, -, -⟩ := KS.out.all
        have ll9_7 := KS.out.lt
        obtain ⟨cc9_80, cc9_81, cc9_82, -, -, -⟩ := KT.out.all
        have ll9_8 := KT.out.lt
        go_wp2_with (fail)
        obtain ⟨mV, hV⟩ : ∃ m, scaleM R C X 2 = m := ⟨_, rfl⟩
        have HV := Lib.hid hV
        clear hV
        refine (iScale R C qX qcX X 2 _ (OX.out.old _).rd lX).mono ?_
        rintro e w10 ⟨vV, rfl, own, hb⟩
        rw [HV.out] at own ⊢
        obtain ⟨qV, qcV, rfl, -, -⟩ := own.form
        have nV := own.small
        have OA := Lib.hid ((OA.out.old _).keep hb)
        have OB := Lib.hid ((OB.out.old _).keep hb)
        have KA := Lib.hid ((KA.out.old _).step hb)
        have KB := Lib.hid ((KB.out.old _).step hb)
        have OM := Lib.hid ((OM.out.old _).keep hb)
        have KM := Lib.hid ((KM.out.old _).step hb)
        have OX := Lib.hid ((OX.out.old _).keep hb)
        have KX := Lib.hid ((KX.out.old _).step hb)
        have OY := Lib.hid ((OY.out.old _).keep hb)
        have KY := Lib.hid ((KY.out.old _).step hb)
        have OZ := Lib.hid ((OZ.out.old _).keep hb)
        have KZ := Lib.hid ((KZ.out.old _).step hb)
        have OW := Lib.hid ((OW.out.old _).keep hb)
        have KW := Lib.hid ((KW.out.old _).step hb)
        have OS := Lib.hid ((OS.out.old _).keep hb)
        have KS := Lib.hid ((KS.out.old _).step hb)
        have OT := Lib.hid ((OT.out.old _).keep hb)
        have KT := Lib.hid ((KT.out.old _).step hb)
        have OU := Lib.hid ((OU.out.old _).keep hb)
        have KU : Hid (Blk3 w10 w9.heap.size 26 (.int .i64 (mU.r)) (.int .i64 (mU.c)) (.slice qU mU.zs.length qcU)) := (Blk3.at_ _ _ _ _ rfl).step hb
        have B := Lib.hid (stepB (B.out.alloc B.out.size _) hb)
        clear hb
        have OV := Lib.hid (own.le (Nat.zero_le _))
        clear own
        obtain ⟨cc10_00, cc10_01, cc10_02, -, -, -⟩ := KA.out.all
        have ll10_0 := KA.out.lt
        obtain ⟨cc10_10, cc10_11, cc10_12, -, -, -⟩ := KB.out.all
        have ll10_1 := KB.out.lt
        obtain ⟨cc10_20, cc10_21, cc10_22, -, -, -⟩ := KM.out.all
        have ll10_2 := KM.out.lt
        obtain ⟨cc10_30, cc10_31, cc10_32, -, -, -⟩ := KX.out.all
        have ll10_3 := KX.out.lt
        obtain ⟨cc10_40, cc10_41, cc10_42, -, -, -⟩ := KY.out.all
        have ll10_4 := KY.out.lt
        obtain ⟨cc10_50, cc10_51, cc10_52, -, -, -⟩ := KZ.out.all
        have ll10_5 := KZ.out.lt
        obtain ⟨cc10_60, cc10_61, cc10_62, -, -, -⟩ := KW.out.all
        have ll10_6 := KW.out.lt
        obtain ⟨cc10_70, cc10_71, cc10_72, -, -, -⟩ := KS.out.all
        have ll10_7 := KS.out.lt
        obtain ⟨cc10_80, cc10_81, cc10_82, -, -, -⟩ := KT.out.all
        have ll10_8 := KT.out.lt
        obtain ⟨cc10_90, cc10_91, cc10_92, -, -, -⟩ := KU.out.all
        have ll10_9 := KU.out.lt
        rcases Bool.eq_false_or_eq_true mS.ok with hfS | hfS
        rotate_left
        · rw [hfS]
          obtain ⟨cc11_00, cc11_01, cc11_02, -, -, -⟩ := KA.out.all
          have ll11_0 := KA.out.lt
          obtain ⟨cc11_10, cc11_11, cc11_12, -, -, -⟩ := KB.out.all
          have ll11_1 := KB.out.lt
          obtain ⟨cc11_20, cc11_21, cc11_22, -, -, -⟩ := KM.out.all
          have ll11_2 := KM.out.lt
          obtain ⟨cc11_30, cc11_31, cc11_32, -, -, -⟩ := KX.out.all
          have ll11_3 := KX.out.lt
          obtain ⟨cc11_40, cc11_41, cc11_42, -, -, -⟩ := KY.out.all
          have ll11_4 := KY.out.lt
          obtain ⟨cc11_50, cc11_51, cc11_52, -, -, -⟩ := KZ.out.all
          have ll11_5 := KZ.out.lt
          obtain ⟨cc11_60, cc11_61, cc11_62, -, -, -⟩ := KW.out.all
          have ll11_6 := KW.out.lt
          obtain ⟨cc11_70, cc11_71, cc11_72, -, -, -⟩ := KS.out.all
          have ll11_7 := KS.out.lt
          obtain ⟨cc11_80, cc11_81, cc11_82, -, -, -⟩ := KT.out.all
          have ll11_8 := KT.out.lt
          obtain ⟨cc11_90, cc11_91, cc11_92, -, -, -⟩ := KU.out.all
          have ll11_9 := KU.out.lt
          go_wp2_with (fail)
          go_ret
          exact ⟨rfl, (B.out.alloc B.out.size _)⟩
        rw [hfS]
        rcases Bool.eq_false_or_eq_true mT.ok with hfT | hfT
        rotate_left
        · rw [hfT]
          obtain ⟨cc11_00, cc11_01, cc11_02, -, -, -⟩ := KA.out.all
          have ll11_0 := KA.out.lt
          obtain ⟨cc11_10, cc11_11, cc11_12, -, -, -⟩ := KB.out.all
          have ll11_1 := KB.out.lt
          obtain ⟨cc11_20, cc11_21, cc11_22, -, -, -⟩ := KM.out.all
          have ll11_2 := KM.out.lt
          obtain ⟨cc11_30, cc11_31, cc11_32, -, -, -⟩ := KX.out.all
          have ll11_3 := KX.out.lt
          obtain ⟨cc11_40, cc11_41, cc11_42, -, -, -⟩ := KY.out.all
          have ll11_4 := KY.out.lt
          obtain ⟨cc11_50, cc11_51, cc11_52, -, -, -⟩ := KZ.out.all
          have ll11_5 := KZ.out.lt
          obtain ⟨cc11_60, cc11_61, cc11_62, -, -, -⟩ := KW.out.all
          have ll11_6 := KW.out.lt
          obtain ⟨cc11_70, cc11_71, cc11_72, -, -, -⟩ := KS.out.all
          have ll11_7 := KS.out.lt
          obtain ⟨cc11_80, cc11_81, cc11_82, -, -, -⟩ := KT.out.all
          have ll11_8 := KT.out.lt
          obtain ⟨cc11_90, cc11_91, cc11_92, -, -, -⟩ := KU.out.all
          have ll11_9 := KU.out.lt
          go_wp2_with (fail)
          go_ret
          exact ⟨rfl, (B.out.alloc B.out.size _)⟩
        rw [hfT]
        rcases Bool.eq_false_or_eq_true mU.ok with hfU | hfU
        rotate_left
        · rw [hfU]
          obtain ⟨cc11_00, cc11_01, cc11_02, -, -, -⟩ := KA.out.all
          have ll11_0 := KA.out.lt
          obtain ⟨cc11_10, cc11_11, cc11_12, -, -, -⟩ := KB.out.all
          have ll11_1 := KB.out.lt
          obtain ⟨cc11_20, cc11_21, cc11_22, -, -, -⟩ := KM.out.all
          have ll11_2 := KM.out.lt
          obtain ⟨cc11_30, cc11_31, cc11_32, -, -, -⟩ := KX.out.all
          have ll11_3 := KX.out.lt
          obtain ⟨cc11_40, cc11_41, cc11_42, -, -, -⟩ := KY.out.all
          have ll11_4 := KY.out.lt
          obtain ⟨cc11_50, cc11_51, cc11_52, -, -, -⟩ := KZ.out.all
          have ll11_5 := KZ.out.lt
          obtain ⟨cc11_60, cc11_61, cc11_62, -, -, -⟩ := KW.out.all
          have ll11_6 := KW.out.lt
          obtain ⟨cc11_70, cc11_71, cc11_72, -, -, -⟩ := KS.out.all
          have ll11_7 := KS.out.lt
          obtain ⟨cc11_80, cc11_81, cc11_82, -, -, -⟩ := KT.out.all
          have ll11_8 := KT.out.lt
          obtain ⟨cc11_90, cc11_91, cc11_92, -, -, -⟩ := KU.out.all
          have ll11_9 := KU.out.lt
          go_wp2_with (fail)
          go_ret
          exact ⟨rfl, (B.out.alloc B.out.size _)⟩
        rw [hfU]
        rcases Bool.eq_false_or_eq_true mV.ok with hfV | hfV
        rotate_left
        · rw [hfV]
          obtain ⟨cc11_00, cc11_01, cc11_02, -, -, -⟩ := KA.out.all
          have ll11_0 := KA.out.lt
          obtain ⟨cc11_10, cc11_11, cc11_12, -, -, -⟩ := KB.out.all
          have ll11_1 := KB.out.lt
          obtain ⟨cc11_20, cc11_21, cc11_22, -, -, -⟩ := KM.out.all
          have ll11_2 := KM.out.lt
          obtain ⟨cc11_30, cc11_31, cc11_32, -, -, -⟩ := KX.out.all
          have ll11_3 := KX.out.lt
          obtain ⟨cc11_40, cc11_41, cc11_42, -, -, -⟩ := KY.out.all
          have ll11_4 := KY.out.lt
          obtain ⟨cc11_50, cc11_51, cc11_52, -, -, -⟩ := KZ.out.all
          have ll11_5 := KZ.out.lt
          obtain ⟨cc11_60, cc11_61, cc11_62, -, -, -⟩ := KW.out.all
          have ll11_6 := KW.out.lt
          obtain ⟨cc11_70, cc11_71, cc11_72, -, -, -⟩ := KS.out.all
          have ll11_7 := KS.out.lt
          obtain ⟨cc11_80, cc11_81, cc11_82, -, -, -⟩ := KT.out.all
          have ll11_8 := KT.out.lt
          obtain ⟨cc11_90, cc11_91, cc11_92, -, -, -⟩ := KU.out.all
          have ll11_9 := KU.out.lt
          go_wp2_with (fail)
          go_ret
          exact ⟨rfl, (B.out.alloc B.out.size _)⟩
        rw [hfV]
        obtain ⟨eT, eU⟩ := ring_dist (xs := xs) (v := mV) (u := mU) H2.out H3.out HS.out HT.out (by rw [XH.out]; exact HU.out) (by rw [XH.out]; exact HV.out) hfS hfT hfU
        skip
        have ET := Lib.hid eT
        have EU := Lib.hid eU
        clear eT eU
        obtain ⟨cc11_00, cc11_01, cc11_02, -, -, -⟩ := KA.out.all
        have ll11_0 := KA.out.lt
        obtain ⟨cc11_10, cc11_11, cc11_12, -, -, -⟩ := KB.out.all
        have ll11_1 := KB.out.lt
        obtain ⟨cc11_20, cc11_21, cc11_22, -, -, -⟩ := KM.out.all
        have ll11_2 := KM.out.lt
        obtain ⟨cc11_30, cc11_31, cc11_32, -, -, -⟩ := KX.out.all
        have ll11_3 := KX.out.lt
        obtain ⟨cc11_40, cc11_41, cc11_42, -, -, -⟩ := KY.out.all
        have ll11_4 := KY.out.lt
        obtain ⟨cc11_50, cc11_51, cc11_52, -, -, -⟩ := KZ.out.all
        have ll11_5 := KZ.out.lt
        obtain ⟨cc11_60, cc11_61, cc11_62, -, -, -⟩ := KW.out.all
        have ll11_6 := KW.out.lt
        obtain ⟨cc11_70, cc11_71, cc11_72, -, -, -⟩ := KS.out.all
        have ll11_7 := KS.out.lt
        obtain ⟨cc11_80, cc11_81, cc11_82, -, -, -⟩ := KT.out.all
        have ll11_8 := KT.out.lt
        obtain ⟨cc11_90, cc11_91, cc11_92, -, -, -⟩ := KU.out.all
        have ll11_9 := KU.out.lt
        go_wp2_with (fail)
        refine (sSameE mT mU qT qU qcT qcU _ ET.out (OT.out.old _).rd (OU.out.old _).rd nT).mono ?_
        rintro e w11 ⟨rfl, hb⟩
        have OA := Lib.hid ((OA.out.old _).keep hb)
        have OB := Lib.hid ((OB.out.old _).keep hb)
        have KA := Lib.hid ((KA.out.old _).step hb)
        have KB := Lib.hid ((KB.out.old _).step hb)
        have OM := Lib.hid ((OM.out.old _).keep hb)
        have KM := Lib.hid ((KM.out.old _).step hb)
        have OX := Lib.hid ((OX.out.old _).keep hb)
        have KX := Lib.hid ((KX.out.old _).step hb)
        have OY := Lib.hid ((OY.out.old _).keep hb)
        have KY := Lib.hid ((KY.out.old _).step hb)
        have OZ := Lib.hid ((OZ.out.old _).keep hb)
        have KZ := Lib.hid ((KZ.out.old _).step hb)
        have OW := Lib.hid ((OW.out.old _).keep hb)
        have KW := Lib.hid ((KW.out.old _).step hb)
        have OS := Lib.hid ((OS.out.old _).keep hb)
        have KS := Lib.hid ((KS.out.old _).step hb)
        have OT := Lib.hid ((OT.out.old _).keep hb)
        have KT := Lib.hid ((KT.out.old _).step hb)
        have OU := Lib.hid ((OU.out.old _).keep hb)
        have KU := Lib.hid ((KU.out.old _).step hb)
        have OV := Lib.hid ((OV.out.old _).keep hb)
        have KV : Hid (Blk3 w11 w10.heap.size 26 (.int .i64 (mV.r)) (.int .i64 (mV.c)) (.slice qV mV.zs.length qcV)) := (Blk3.at_ _ _ _ _ rfl).step hb
        have B := Lib.hid (stepB (B.out.alloc B.out.size _) hb)
        clear hb
        obtain ⟨cc12_00, cc12_01, cc12_02, -, -, -⟩ := KA.out.all
        have ll12_0 := KA.out.lt
        obtain ⟨cc12_10, cc12_11, cc12_12, -, -, -⟩ := KB.out.all
        have ll12_1 := KB.out.lt
        obtain ⟨cc12_20, cc12_21, cc12_22, -, -, -⟩ := KM.out.all
        have ll12_2 := KM.out.lt
        obtain ⟨cc12_30, cc12_31, cc12_32, -, -, -⟩ := KX.out.all
        have ll12_3 := KX.out.lt
        obtain ⟨cc12_40, cc12_41, cc12_42, -, -, -⟩ := KY.out.all
        have ll12_4 := KY.out.lt
        obtain ⟨cc12_50, cc12_51, cc12_52, -, -, -⟩ := KZ.out.all
        have ll12_5 := KZ.out.lt
        obtain ⟨cc12_60, cc12_61, cc12_62, -, -, -⟩ := KW.out.all
        have ll12_6 := KW.out.lt
        obtain ⟨cc12_70, cc12_71, cc12_72, -, -, -⟩ := KS.out.all
        have ll12_7 := KS.out.lt
        obtain ⟨cc12_80, cc12_81, cc12_82, -, -, -⟩ := KT.out.all
        have ll12_8 := KT.out.lt
        obtain ⟨cc12_90, cc12_91, cc12_92, -, -, -⟩ := KU.out.all
        have ll12_9 := KU.out.lt
        obtain ⟨cc12_100, cc12_101, cc12_102, -, -, -⟩ := KV.out.all
        have ll12_10 := KV.out.lt
        go_wp2_with (fail)
        refine (iSameE mU mV qU qV qcU qcV _ EU.out OU.out.rd OV.out.rd nU nV).mono ?_
        rintro e w12 ⟨rfl, hb⟩
        have OA := Lib.hid (OA.out.keep hb)
        have OB := Lib.hid (OB.out.keep hb)
        have KA := Lib.hid (KA.out.step hb)
        have KB := Lib.hid (KB.out.step hb)
        have OM := Lib.hid (OM.out.keep hb)
        have KM := Lib.hid (KM.out.step hb)
        have OX := Lib.hid (OX.out.keep hb)
        have KX := Lib.hid (KX.out.step hb)
        have OY := Lib.hid (OY.out.keep hb)
        have KY := Lib.hid (KY.out.step hb)
        have OZ := Lib.hid (OZ.out.keep hb)
        have KZ := Lib.hid (KZ.out.step hb)
        have OW := Lib.hid (OW.out.keep hb)
        have KW := Lib.hid (KW.out.step hb)
        have OS := Lib.hid (OS.out.keep hb)
        have KS := Lib.hid (KS.out.step hb)
        have OT := Lib.hid (OT.out.keep hb)
        have KT := Lib.hid (KT.out.step hb)
        have OU := Lib.hid (OU.out.keep hb)
        have KU := Lib.hid (KU.out.step hb)
        have OV := Lib.hid (OV.out.keep hb)
        have KV := Lib.hid (KV.out.step hb)
        have B := Lib.hid (stepB B.out hb)
        clear hb
        obtain ⟨cc13_00, cc13_01, cc13_02, -, -, -⟩ := KA.out.all
        have ll13_0 := KA.out.lt
        obtain ⟨cc13_10, cc13_11, cc13_12, -, -, -⟩ := KB.out.all
        have ll13_1 := KB.out.lt
        obtain ⟨cc13_20, cc13_21, cc13_22, -, -, -⟩ := KM.out.all
        have ll13_2 := KM.out.lt
        obtain ⟨cc13_30, cc13_31, cc13_32, -, -, -⟩ := KX.out.all
        have ll13_3 := KX.out.lt
        obtain ⟨cc13_40, cc13_41, cc13_42, -, -, -⟩ := KY.out.all
        have ll13_4 := KY.out.lt
        obtain ⟨cc13_50, cc13_51, cc13_52, -, -, -⟩ := KZ.out.all
        have ll13_5 := KZ.out.lt
        obtain ⟨cc13_60, cc13_61, cc13_62, -, -, -⟩ := KW.out.all
        have ll13_6 := KW.out.lt
        obtain ⟨cc13_70, cc13_71, cc13_72, -, -, -⟩ := KS.out.all
        have ll13_7 := KS.out.lt
        obtain ⟨cc13_80, cc13_81, cc13_82, -, -, -⟩ := KT.out.all
        have ll13_8 := KT.out.lt
        obtain ⟨cc13_90, cc13_91, cc13_92, -, -, -⟩ := KU.out.all
        have ll13_9 := KU.out.lt
        obtain ⟨cc13_100, cc13_101, cc13_102, -, -, -⟩ := KV.out.all
        have ll13_10 := KV.out.lt
        go_wp2_with (fail)
        go_ret
        exact ⟨rfl, B.out⟩
      rw [hgZ]
      rcases Bool.eq_false_or_eq_true mW.ok with hgW | hgW
      rotate_left
      · rw [hgW]
        obtain ⟨cc6_00, cc6_01, cc6_02, -, -, -⟩ := KA.out.all
        have ll6_0 := KA.out.lt
        obtain ⟨cc6_10, cc6_11, cc6_12, -, -, -⟩ := KB.out.all
        have ll6_1 := KB.out.lt
        obtain ⟨cc6_20, cc6_21, cc6_22, -, -, -⟩ := KM.out.all
        have ll6_2 := KM.out.lt
        obtain ⟨cc6_30, cc6_31, cc6_32, -, -, -⟩ := KX.out.all
        have ll6_3 := KX.out.lt
        obtain ⟨cc6_40, cc6_41, cc6_42, -, -, -⟩ := KY.out.all
        have ll6_4 := KY.out.lt
        obtain ⟨cc6_50, cc6_51, cc6_52, -, -, -⟩ := KZ.out.all
        have ll6_5 := KZ.out.lt
        go_wp2_with (fail)
        obtain ⟨mS, hS⟩ : ∃ m, addM K C ys K C ys = m := ⟨_, rfl⟩
        have HS := Lib.hid hS
        clear hS
        refine (iAdd K C K C q2 q2 qc2 qc2 ys ys _ (OB.out.old _).rd (OB.out.old _).rd n2 n2).mono ?_
        rintro e w7 ⟨vS, rfl, own, hb⟩
        rw [HS.out] at own ⊢
        obtain ⟨qS, qcS, rfl, -, -⟩ := own.form
        have nS := own.small
        have OA := Lib.hid ((OA.out.old _).keep hb)
        have OB := Lib.hid ((OB.out.old _).keep hb)
        have KA := Lib.hid ((KA.out.old _).step hb)
        have KB := Lib.hid ((KB.out.old _).step hb)
        have OM := Lib.hid ((OM.out.old _).keep hb)
        have KM := Lib.hid ((KM.out.old _).step hb)
        have OX := Lib.hid ((OX.out.old _).keep hb)
        have KX := Lib.hid ((KX.out.old _).step hb)
        have OY := Lib.hid ((OY.out.old _).keep hb)
        have KY := Lib.hid ((KY.out.old _).step hb)
        have OZ := Lib.hid ((OZ.out.old _).keep hb)
        have KZ := Lib.hid ((KZ.out.old _).step hb)
        have OW := Lib.hid ((OW.out.old _).keep hb)
        have KW : Hid (Blk3 w7 w6.heap.size 26 (.int .i64 (mW.r)) (.int .i64 (mW.c)) (.slice qW mW.zs.length qcW)) := (Blk3.at_ _ _ _ _ rfl).step hb
        have B := Lib.hid (stepB (B.out.alloc B.out.size _) hb)
        clear hb
        have OS := Lib.hid (own.le (Nat.zero_le _))
        clear own
        obtain ⟨cc7_00, cc7_01, cc7_02, -, -, -⟩ := KA.out.all
        have ll7_0 := KA.out.lt
        obtain ⟨cc7_10, cc7_11, cc7_12, -, -, -⟩ := KB.out.all
        have ll7_1 := KB.out.lt
        obtain ⟨cc7_20, cc7_21, cc7_22, -, -, -⟩ := KM.out.all
        have ll7_2 := KM.out.lt
        obtain ⟨cc7_30, cc7_31, cc7_32, -, -, -⟩ := KX.out.all
        have ll7_3 := KX.out.lt
        obtain ⟨cc7_40, cc7_41, cc7_42, -, -, -⟩ := KY.out.all
        have ll7_4 := KY.out.lt
        obtain ⟨cc7_50, cc7_51, cc7_52, -, -, -⟩ := KZ.out.all
        have ll7_5 := KZ.out.lt
        obtain ⟨cc7_60, cc7_61, cc7_62, -, -, -⟩ := KW.out.all
        have ll7_6 := KW.out.lt
        go_wp2_with (fail)
        obtain ⟨mT, hT⟩ : ∃ m, mulM R K xs mS.r mS.c mS.zs = m := ⟨_, rfl⟩
        have HT := Lib.hid hT
        clear hT
        refine (iMul R K mS.r mS.c q1 qS qc1 qcS xs mS.zs _ (OA.out.old _).rd (OS.out.old _).rd n1 nS).mono ?_
        rintro e w8 ⟨vT, rfl, own, hb⟩
        rw [HT.out] at own ⊢
        obtain ⟨qT, qcT, rfl, -, -⟩ := own.form
        have nT := own.small
        have OA := Lib.hid ((OA.out.old _).keep hb)
        have OB := Lib.hid ((OB.out.old _).keep hb)
        have KA := Lib.hid ((KA.out.old _).step hb)
        have KB := Lib.hid ((KB.out.old _).step hb)
        have OM := Lib.hid ((OM.out.old _).keep hb)
        have KM := Lib.hid ((KM.out.old _).step hb)
        have OX := Lib.hid ((OX.out.old _).keep hb)
        have KX := Lib.hid ((KX.out.old _).step hb)
        have OY := Lib.hid ((OY.out.old _).keep hb)
        have KY := Lib.hid ((KY.out.old _).step hb)
        have OZ := Lib.hid ((OZ.out.old _).keep hb)
        have KZ := Lib.hid ((KZ.out.old _).step hb)
        have OW := Lib.hid ((OW.out.old _).keep hb)
        have KW := Lib.hid ((KW.out.old _).step hb)
        have OS := Lib.hid ((OS.out.old _).keep hb)
        have KS : Hid (Blk3 w8 w7.heap.size 26 (.int .i64 (mS.r)) (.int .i64 (mS.c)) (.slice qS mS.zs.length qcS)) := (Blk3.at_ _ _ _ _ rfl).step hb
        have B := Lib.hid (stepB (B.out.alloc B.out.size _) hb)
        clear hb
        have OT := Lib.hid (own.le (Nat.zero_le _))
        clear own
        obtain ⟨cc8_00, cc8_01, cc8_02, -, -, -⟩ := KA.out.all
        have ll8_0 := KA.out.lt
        obtain ⟨cc8_10, cc8_11, cc8_12, -, -, -⟩ := KB.out.all
        have ll8_1 := KB.out.lt
        obtain ⟨cc8_20, cc8_21, cc8_22, -, -, -⟩ := KM.out.all
        have ll8_2 := KM.out.lt
        obtain ⟨cc8_30, cc8_31, cc8_32, -, -, -⟩ := KX.out.all
        have ll8_3 := KX.out.lt
        obtain ⟨cc8_40, cc8_41, cc8_42, -, -, -⟩ := KY.out.all
        have ll8_4 := KY.out.lt
        obtain ⟨cc8_50, cc8_51, cc8_52, -, -, -⟩ := KZ.out.all
        have ll8_5 := KZ.out.lt
        obtain ⟨cc8_60, cc8_61, cc8_62, -, -, -⟩ := KW.out.all
        have ll8_6 := KW.out.lt
        obtain ⟨cc8_70, cc8_71, cc8_72, -, -, -⟩ := KS.out.all
        have ll8_7 := KS.out.lt
        go_wp2_with (fail)
        obtain ⟨mU, hU⟩ : ∃ m, addM R C X R C X = m := ⟨_, rfl⟩
        have HU := Lib.hid hU
        clear hU
        refine (iAdd R C R C qX qX qcX qcX X X _ (OX.out.old _).rd (OX.out.old _).rd lX lX).mono ?_
        rintro e w9 ⟨vU, rfl, own, hb⟩
        rw [HU.out] at own ⊢
        obtain ⟨qU, qcU, rfl, -, -⟩ := own.form
        have nU := own.small
        have OA := Lib.hid ((OA.out.old _).keep hb)
        have OB := Lib.hid ((OB.out.old _).keep hb)
        have KA := Lib.hid ((KA.out.old _).step hb)
        have KB := Lib.hid ((KB.out.old _).step hb)
        have OM := Lib.hid ((OM.out.old _).keep hb)
        have KM := Lib.hid ((KM.out.old _).step hb)
        have OX := Lib.hid ((OX.out.old _).keep hb)
        have KX := Lib.hid ((KX.out.old _).step hb)
        have OY := Lib.hid ((OY.out.old _).keep hb)
        have KY := Lib.hid ((KY.out.old _).step hb)
        have OZ := Lib.hid ((OZ.out.old _).keep hb)
        have KZ := Lib.hid ((KZ.out.old _).step hb)
        have OW := Lib.hid ((OW.out.old _).keep hb)
        have KW := Lib.hid ((KW.out.old _).step hb)
        have OS := Lib.hid ((OS.out.old _).keep hb)
        have KS := Lib.hid ((KS.out.old _).step hb)
        have OT := Lib.hid ((OT.out.old _).keep hb)
        have KT : Hid (Blk3 w9 w8.heap.size 26 (.int .i64 (mT.r)) (.int .i64 (mT.c)) (.slice qT mT.zs.length qcT)) := (Blk3.at_ _ _ _ _ rfl).step hb
        have B := Lib.hid (stepB (B.out.alloc B.out.size _) hb)
        clear hb
        have OU := Lib.hid (own.le (Nat.zero_le _))
        clear own
        obtain ⟨cc9_00, cc9_01, cc9_02, -, -, -⟩ := KA.out.all
        have ll9_0 := KA.out.lt
        obtain ⟨cc9_10, cc9_11, cc9_12, -, -, -⟩ := KB.out.all
        have ll9_1 := KB.out.lt
        obtain ⟨cc9_20, cc9_21, cc9_22, -, -, -⟩ := KM.out.all
        have ll9_2 := KM.out.lt
        obtain ⟨cc9_30, cc9_31, cc9_32, -, -, -⟩ := KX.out.all
        have ll9_3 := KX.out.lt
        obtain ⟨cc9_40, cc9_41, cc9_42, -, -, -⟩ := KY.out.all
        have ll9_4 := KY.out.lt
        obtain ⟨cc9_50, cc9_51, cc9_52, -, -, -⟩ := KZ.out.all
        have ll9_5 := KZ.out.lt
        obtain ⟨cc9_60, cc9_61, cc9_62, -, -, -⟩ := KW.out.all
        have ll9_6 := KW.out.lt
        obtain ⟨cc9_70, cc9_71, cc9_72, -, -, -⟩ := KS.out.all
        have ll9_7 := KS.out.lt
        obtain ⟨cc9_80, cc9_81, cc9_82, -, -, -⟩ := KT.out.all
        have ll9_8 := KT.out.lt
        go_wp2_with (fail)
        obtain ⟨mV, hV⟩ : ∃ m, scaleM R C X 2 = m := ⟨_, rfl⟩
        have HV := Lib.hid hV
        clear hV
        refine (iScale R C qX qcX X 2 _ (OX.out.old _).rd lX).mono ?_
        rintro e w10 ⟨vV, rfl, own, hb⟩
        rw [HV.out] at own ⊢
        obtain ⟨qV, qcV, rfl, -, -⟩ := own.form
        have nV := own.small
        have OA := Lib.hid ((OA.out.old _).keep hb)
        have OB := Lib.hid ((OB.out.old _).keep hb)
        have KA := Lib.hid ((KA.out.old _).step hb)
        have KB := Lib.hid ((KB.out.old _).step hb)
        have OM := Lib.hid ((OM.out.old _).keep hb)
        have KM := Lib.hid ((KM.out.old _).step hb)
        have OX := Lib.hid ((OX.out.old _).keep hb)
        have KX := Lib.hid ((KX.out.old _).step hb)
        have OY := Lib.hid ((OY.out.old _).keep hb)
        have KY := Lib.hid ((KY.out.old _).step hb)
        have OZ := Lib.hid ((OZ.out.old _).keep hb)
        have KZ := Lib.hid ((KZ.out.old _).step hb)
        have OW := Lib.hid ((OW.out.old _).keep hb)
        have KW := Lib.hid ((KW.out.old _).step hb)
        have OS := Lib.hid ((OS.out.old _).keep hb)
        have KS := Lib.hid ((KS.out.old _).step hb)
        have OT := Lib.hid ((OT.out.old _).keep hb)
        have KT := Lib.hid ((KT.out.old _).step hb)
        have OU := Lib.hid ((OU.out.old _).keep hb)
        have KU : Hid (Blk3 w10 w9.heap.size 26 (.int .i64 (mU.r)) (.int .i64 (mU.c)) (.slice qU mU.zs.length qcU)) := (Blk3.at_ _ _ _ _ rfl).step hb
        have B := Lib.hid (stepB (B.out.alloc B.out.size _) hb)
        clear hb
        have OV := Lib.hid (own.le (Nat.zero_le _))
        clear own
        obtain ⟨cc10_00, cc10_01, cc10_02, -, -, -⟩ := KA.out.all
        have ll10_0 := KA.out.lt
        obtain ⟨cc10_10, cc10_11, cc10_12, -, -, -⟩ := KB.out.all
        have ll10_1 := KB.out.lt
        obtain ⟨cc10_20, cc10_21, cc10_22, -, -, -⟩ := KM.out.all
        have ll10_2 := KM.out.lt
        obtain ⟨cc10_30, cc10_31, cc10_32, -, -, -⟩ := KX.out.all
        have ll10_3 := KX.out.lt
        obtain ⟨cc10_40, cc10_41, cc10_42, -, -, -⟩ := KY.out.all
        have ll10_4 := KY.out.lt
        obtain ⟨cc10_50, cc10_51, cc10_52, -, -, -⟩ := KZ.out.all
        have ll10_5 := KZ.out.lt
        obtain ⟨cc10_60, cc10_61, cc10_62, -, -, -⟩ := KW.out.all
        have ll10_6 := KW.out.lt
        obtain ⟨cc10_70, cc10_71, cc10_72, -, -, -⟩ := KS.out.all
        have ll10_7 := KS.out.lt
        obtain ⟨cc10_80, cc10_81, cc10_82, -, -, -⟩ := KT.out.all
        have ll10_8 := KT.out.lt
        obtain ⟨cc10_90, cc10_91, cc10_92, -, -, -⟩ := KU.out.all
        have ll10_9 := KU.out.lt
        rcases Bool.eq_false_or_eq_true mS.ok with hfS | hfS
        rotate_left
        · rw [hfS]
          obtain ⟨cc11_00, cc11_01, cc11_02, -, -, -⟩ := KA.out.all
          have ll11_0 := KA.out.lt
          obtain ⟨cc11_10, cc11_11, cc11_12, -, -, -⟩ := KB.out.all
          have ll11_1 := KB.out.lt
          obtain ⟨cc11_20, cc11_21, cc11_22, -, -, -⟩ := KM.out.all
          have ll11_2 := KM.out.lt
          obtain ⟨cc11_30, cc11_31, cc11_32, -, -, -⟩ := KX.out.all
          have ll11_3 := KX.out.lt
          obtain ⟨cc11_40, cc11_41, cc11_42, -, -, -⟩ := KY.out.all
          have ll11_4 := KY.out.lt
          obtain ⟨cc11_50, cc11_51, cc11_52, -, -, -⟩ := KZ.out.all
          have ll11_5 := KZ.out.lt
          obtain ⟨cc11_60, cc11_61, cc11_62, -, -, -⟩ := KW.out.all
          have ll11_6 := KW.out.lt
          obtain ⟨cc11_70, cc11_71, cc11_72, -, -, -⟩ := KS.out.all
          have ll11_7 := KS.out.lt
          obtain ⟨cc11_80, cc11_81, cc11_82, -, -, -⟩ := KT.out.all
          have ll11_8 := KT.out.lt
          obtain ⟨cc11_90, cc11_91, cc11_92, -, -, -⟩ := KU.out.all
          have ll11_9 := KU.out.lt
          go_wp2_with (fail)
          go_ret
          exact ⟨rfl, (B.out.alloc B.out.size _)⟩
        rw [hfS]
        rcases Bool.eq_false_or_eq_true mT.ok with hfT | hfT
        rotate_left
        · rw [hfT]
          obtain ⟨cc11_00, cc11_01, cc11_02, -, -, -⟩ := KA.out.all
          have ll11_0 := KA.out.lt
          obtain ⟨cc11_10, cc11_11, cc11_12, -, -, -⟩ := KB.out.all
          have ll11_1 := KB.out.lt
          obtain ⟨cc11_20, cc11_21, cc11_22, -, -, -⟩ := KM.out.all
          have ll11_2 := KM.out.lt
          obtain ⟨cc11_30, cc11_31, cc11_32, -, -, -⟩ := KX.out.all
          have ll11_3 := KX.out.lt
          obtain ⟨cc11_40, cc11_41, cc11_42, -, -, -⟩ := KY.out.all
          have ll11_4 := KY.out.lt
          obtain ⟨cc11_50, cc11_51, cc11_52, -, -, -⟩ := KZ.out.all
          have ll11_5 := KZ.out.lt
          obtain ⟨cc11_60, cc11_61, cc11_62, -, -, -⟩ := KW.out.all
          have ll11_6 := KW.out.lt
          obtain ⟨cc11_70, cc11_71, cc11_72, -, -, -⟩ := KS.out.all
          have ll11_7 := KS.out.lt
          obtain ⟨cc11_80, cc11_81, cc11_82, -, -, -⟩ := KT.out.all
          have ll11_8 := KT.out.lt
          obtain ⟨cc11_90, cc11_91, cc11_92, -, -, -⟩ := KU.out.all
          have ll11_9 := KU.out.lt
          go_wp2_with (fail)
          go_ret
          exact ⟨rfl, (B.out.alloc B.out.size _)⟩
        rw [hfT]
        rcases Bool.eq_false_or_eq_true mU.ok with hfU | hfU
        rotate_left
        · rw [hfU]
          obtain ⟨cc11_00, cc11_01, cc11_02, -, -, -⟩ := KA.out.all
          have ll11_0 := KA.out.lt
          obtain ⟨cc11_10, cc11_11, cc11_12, -, -, -⟩ := KB.out.all
          have ll11_1 := KB.out.lt
          obtain ⟨cc11_20, cc11_21, cc11_22, -, -, -⟩ := KM.out.all
          have ll11_2 := KM.out.lt
          obtain ⟨cc11_30, cc11_31, cc11_32, -, -, -⟩ := KX.out.all
          have ll11_3 := KX.out.lt
          obtain ⟨cc11_40, cc11_41, cc11_42, -, -, -⟩ := KY.out.all
          have ll11_4 := KY.out.lt
          obtain ⟨cc11_50, cc11_51, cc11_52, -, -, -⟩ := KZ.out.all
          have ll11_5 := KZ.out.lt
          obtain ⟨cc11_60, cc11_61, cc11_62, -, -, -⟩ := KW.out.all
          have ll11_6 := KW.out.lt
          obtain ⟨cc11_70, cc11_71, cc11_72, -, -, -⟩ := KS.out.all
          have ll11_7 := KS.out.lt
          obtain ⟨cc11_80, cc11_81, cc11_82, -, -, -⟩ := KT.out.all
          have ll11_8 := KT.out.lt
          obtain ⟨cc11_90, cc11_91, cc11_92, -, -, -⟩ := KU.out.all
          have ll11_9 := KU.out.lt
          go_wp2_with (fail)
          go_ret
          exact ⟨rfl, (B.out.alloc B.out.size _)⟩
        rw [hfU]
        rcases Bool.eq_false_or_eq_true mV.ok with hfV | hfV
        rotate_left
        · rw [hfV]
          obtain ⟨cc11_00, cc11_01, cc11_02, -, -, -⟩ := KA.out.all
          have ll11_0 := KA.out.lt
          obtain ⟨cc11_10, cc11_11, cc11_12, -, -, -⟩ := KB.out.all
          have ll11_1 := KB.out.lt
          obtain ⟨cc11_20, cc11_21, cc11_22, -, -, -⟩ := KM.out.all
          have ll11_2 := KM.out.lt
          obtain ⟨cc11_30, cc11_31, cc11_32, -, -, -⟩ := KX.out.all
          have ll11_3 := KX.out.lt
          obtain ⟨cc11_40, cc11_41, cc11_42, -, -, -⟩ := KY.out.all
          have ll11_4 := KY.out.lt
          obtain ⟨cc11_50, cc11_51, cc11_52, -, -, -⟩ := KZ.out.all
          have ll11_5 := KZ.out.lt
          obtain ⟨cc11_60, cc11_61, cc11_62, -, -, -⟩ := KW.out.all
          have ll11_6 := KW.out.lt
          obtain ⟨cc11_70, cc11_71, cc11_72, -, -, -⟩ := KS.out.all
          have ll11_7 := KS.out.lt
          obtain ⟨cc11_80, cc11_81, cc11_82, -, -, -⟩ := KT.out.all
          have ll11_8 := KT.out.lt
          obtain ⟨cc11_90, cc11_91, cc11_92, -, -, -⟩ := KU.out.all
          have ll11_9 := KU.out.lt
          go_wp2_with (fail)
          go_ret
          exact ⟨rfl, (B.out.alloc B.out.size _)⟩
        rw [hfV]
        obtain ⟨eT, eU⟩ := ring_dist (xs := xs) (v := mV) (u := mU) H2.out H3.out HS.out HT.out (by rw [XH.out]; exact HU.out) (by rw [XH.out]; exact HV.out) hfS hfT hfU
        skip
        have ET := Lib.hid eT
        have EU := Lib.hid eU
        clear eT eU
        obtain ⟨cc11_00, cc11_01, cc11_02, -, -, -⟩ := KA.out.all
        have ll11_0 := KA.out.lt
        obtain ⟨cc11_10, cc11_11, cc11_12, -, -, -⟩ := KB.out.all
        have ll11_1 := KB.out.lt
        obtain ⟨cc11_20, cc11_21, cc11_22, -, -, -⟩ := KM.out.all
        have ll11_2 := KM.out.lt
        obtain ⟨cc11_30, cc11_31, cc11_32, -, -, -⟩ := KX.out.all
        have ll11_3 := KX.out.lt
        obtain ⟨cc11_40, cc11_41, cc11_42, -, -, -⟩ := KY.out.all
        have ll11_4 := KY.out.lt
        obtain ⟨cc11_50, cc11_51, cc11_52, -, -, -⟩ := KZ.out.all
        have ll11_5 := KZ.out.lt
        obtain ⟨cc11_60, cc11_61, cc11_62, -, -, -⟩ := KW.out.all
        have ll11_6 := KW.out.lt
        obtain ⟨cc11_70, cc11_71, cc11_72, -, -, -⟩ := KS.out.all
        have ll11_7 := KS.out.lt
        obtain ⟨cc11_80, cc11_81, cc11_82, -, -, -⟩ := KT.out.all
        have ll11_8 := KT.out.lt
        obtain ⟨cc11_90, cc11_91, cc11_92, -, -, -⟩ := KU.out.all
        have ll11_9 := KU.out.lt
        go_wp2_with (fail)
        refine (sSameE mT mU qT qU qcT qcU _ ET.out (OT.out.old _).rd (OU.out.old _).rd nT).mono ?_
        rintro e w11 ⟨rfl, hb⟩
        have OA := Lib.hid ((OA.out.old _).keep hb)
        have OB := Lib.hid ((OB.out.old _).keep hb)
        have KA := Lib.hid ((KA.out.old _).step hb)
        have KB := Lib.hid ((KB.out.old _).step hb)
        have OM := Lib.hid ((OM.out.old _).keep hb)
        have KM := Lib.hid ((KM.out.old _).step hb)
        have OX := Lib.hid ((OX.out.old _).keep hb)
        have KX := Lib.hid ((KX.out.old _).step hb)
        have OY := Lib.hid ((OY.out.old _).keep hb)
        have KY := Lib.hid ((KY.out.old _).step hb)
        have OZ := Lib.hid ((OZ.out.old _).keep hb)
        have KZ := Lib.hid ((KZ.out.old _).step hb)
        have OW := Lib.hid ((OW.out.old _).keep hb)
        have KW := Lib.hid ((KW.out.old _).step hb)
        have OS := Lib.hid ((OS.out.old _).keep hb)
        have KS := Lib.hid ((KS.out.old _).step hb)
        have OT := Lib.hid ((OT.out.old _).keep hb)
        have KT := Lib.hid ((KT.out.old _).step hb)
        have OU := Lib.hid ((OU.out.old _).keep hb)
        have KU := Lib.hid ((KU.out.old _).step hb)
        have OV := Lib.hid ((OV.out.old _).keep hb)
        have KV : Hid (Blk3 w11 w10.heap.size 26 (.int .i64 (mV.r)) (.int .i64 (mV.c)) (.slice qV mV.zs.length qcV)) := (Blk3.at_ _ _ _ _ rfl).step hb
        have B := Lib.hid (stepB (B.out.alloc B.out.size _) hb)
        clear hb
        obtain ⟨cc12_00, cc12_01, cc12_02, -, -, -⟩ := KA.out.all
        have ll12_0 := KA.out.lt
        obtain ⟨cc12_10, cc12_11, cc12_12, -, -, -⟩ := KB.out.all
        have ll12_1 := KB.out.lt
        obtain ⟨cc12_20, cc12_21, cc12_22, -, -, -⟩ := KM.out.all
        have ll12_2 := KM.out.lt
        obtain ⟨cc12_30, cc12_31, cc12_32, -, -, -⟩ := KX.out.all
        have ll12_3 := KX.out.lt
        obtain ⟨cc12_40, cc12_41, cc12_42, -, -, -⟩ := KY.out.all
        have ll12_4 := KY.out.lt
        obtain ⟨cc12_50, cc12_51, cc12_52, -, -, -⟩ := KZ.out.all
        have ll12_5 := KZ.out.lt
        obtain ⟨cc12_60, cc12_61, cc12_62, -, -, -⟩ := KW.out.all
        have ll12_6 := KW.out.lt
        obtain ⟨cc12_70, cc12_71, cc12_72, -, -, -⟩ := KS.out.all
        have ll12_7 := KS.out.lt
        obtain ⟨cc12_80, cc12_81, cc12_82, -, -, -⟩ := KT.out.all
        have ll12_8 := KT.out.lt
        obtain ⟨cc12_90, cc12_91, cc12_92, -, -, -⟩ := KU.out.all
        have ll12_9 := KU.out.lt
        obtain ⟨cc12_100, cc12_101, cc12_102, -, -, -⟩ := KV.out.all
        have ll12_10 := KV.out.lt
        go_wp2_with (fail)
        refine (iSameE mU mV qU qV qcU qcV _ EU.out OU.out.rd OV.out.rd nU nV).mono ?_
        rintro e w12 ⟨rfl, hb⟩
        have OA := Lib.hid (OA.out.keep hb)
        have OB := Lib.hid (OB.out.keep hb)
        have KA := Lib.hid (KA.out.step hb)
        have KB := Lib.hid (KB.out.step hb)
        have OM := Lib.hid (OM.out.keep hb)
        have KM := Lib.hid (KM.out.step hb)
        have OX := Lib.hid (OX.out.keep hb)
        have KX := Lib.hid (KX.out.step hb)
        have OY := Lib.hid (OY.out.keep hb)
        have KY := Lib.hid (KY.out.step hb)
        have OZ := Lib.hid (OZ.out.keep hb)
        have KZ := Lib.hid (KZ.out.step hb)
        have OW := Lib.hid (OW.out.keep hb)
        have KW := Lib.hid (KW.out.step hb)
        have OS := Lib.hid (OS.out.keep hb)
        have KS := Lib.hid (KS.out.step hb)
        have OT := Lib.hid (OT.out.keep hb)
        have KT := Lib.hid (KT.out.step hb)
        have OU := Lib.hid (OU.out.keep hb)
        have KU := Lib.hid (KU.out.step hb)
        have OV := Lib.hid (OV.out.keep hb)
        have KV := Lib.hid (KV.out.step hb)
        have B := Lib.hid (stepB B.out hb)
        clear hb
        obtain ⟨cc13_00, cc13_01, cc13_02, -, -, -⟩ := KA.out.all
        have ll13_0 := KA.out.lt
        obtain ⟨cc13_10, cc13_11, cc13_12, -, -, -⟩ := KB.out.all
        have ll13_1 := KB.out.lt
        obtain ⟨cc13_20, cc13_21, cc13_22, -, -, -⟩ := KM.out.all
        have ll13_2 := KM.out.lt
        obtain ⟨cc13_30, cc13_31, cc13_32, -, -, -⟩ := KX.out.all
        have ll13_3 := KX.out.lt
        obtain ⟨cc13_40, cc13_41, cc13_42, -, -, -⟩ := KY.out.all
        have ll13_4 := KY.out.lt
        obtain ⟨cc13_50, cc13_51, cc13_52, -, -, -⟩ := KZ.out.all
        have ll13_5 := KZ.out.lt
        obtain ⟨cc13_60, cc13_61, cc13_62, -, -, -⟩ := KW.out.all
        have ll13_6 := KW.out.lt
        obtain ⟨cc13_70, cc13_71, cc13_72, -, -, -⟩ := KS.out.all
        have ll13_7 := KS.out.lt
        obtain ⟨cc13_80, cc13_81, cc13_82, -, -, -⟩ := KT.out.all
        have ll13_8 := KT.out.lt
        obtain ⟨cc13_90, cc13_91, cc13_92, -, -, -⟩ := KU.out.all
        have ll13_9 := KU.out.lt
        obtain ⟨cc13_100, cc13_101, cc13_102, -, -, -⟩ := KV.out.all
        have ll13_10 := KV.out.lt
        go_wp2_with (fail)
        go_ret
        exact ⟨rfl, B.out⟩
      rw [hgW]
      have e := ring_assoc (zs := zM) (by rw [XH.out]; exact HY.out) HZ.out HW.out hgY hgZ hgW
      have EE := Lib.hid e
      clear e
      obtain ⟨cc6_00, cc6_01, cc6_02, -, -, -⟩ := KA.out.all
      have ll6_0 := KA.out.lt
      obtain ⟨cc6_10, cc6_11, cc6_12, -, -, -⟩ := KB.out.all
      have ll6_1 := KB.out.lt
      obtain ⟨cc6_20, cc6_21, cc6_22, -, -, -⟩ := KM.out.all
      have ll6_2 := KM.out.lt
      obtain ⟨cc6_30, cc6_31, cc6_32, -, -, -⟩ := KX.out.all
      have ll6_3 := KX.out.lt
      obtain ⟨cc6_40, cc6_41, cc6_42, -, -, -⟩ := KY.out.all
      have ll6_4 := KY.out.lt
      obtain ⟨cc6_50, cc6_51, cc6_52, -, -, -⟩ := KZ.out.all
      have ll6_5 := KZ.out.lt
      go_wp2_with (fail)
      refine (iSameE mY mW qY qW qcY qcW _ EE.out (OY.out.old _).rd (OW.out.old _).rd nY nW).mono ?_
      rintro e w7 ⟨rfl, hb⟩
      have OA := Lib.hid ((OA.out.old _).keep hb)
      have OB := Lib.hid ((OB.out.old _).keep hb)
      have KA := Lib.hid ((KA.out.old _).step hb)
      have KB := Lib.hid ((KB.out.old _).step hb)
      have OM := Lib.hid ((OM.out.old _).keep hb)
      have KM := Lib.hid ((KM.out.old _).step hb)
      have OX := Lib.hid ((OX.out.old _).keep hb)
      have KX := Lib.hid ((KX.out.old _).step hb)
      have OY := Lib.hid ((OY.out.old _).keep hb)
      have KY := Lib.hid ((KY.out.old _).step hb)
      have OZ := Lib.hid ((OZ.out.old _).keep hb)
      have KZ := Lib.hid ((KZ.out.old _).step hb)
      have OW := Lib.hid ((OW.out.old _).keep hb)
      have KW : Hid (Blk3 w7 w6.heap.size 26 (.int .i64 (mW.r)) (.int .i64 (mW.c)) (.slice qW mW.zs.length qcW)) := (Blk3.at_ _ _ _ _ rfl).step hb
      have B := Lib.hid (stepB (B.out.alloc B.out.size _) hb)
      clear hb
      obtain ⟨cc7_00, cc7_01, cc7_02, -, -, -⟩ := KA.out.all
      have ll7_0 := KA.out.lt
      obtain ⟨cc7_10, cc7_11, cc7_12, -, -, -⟩ := KB.out.all
      have ll7_1 := KB.out.lt
      obtain ⟨cc7_20, cc7_21, cc7_22, -, -, -⟩ := KM.out.all
      have ll7_2 := KM.out.lt
      obtain ⟨cc7_30, cc7_31, cc7_32, -, -, -⟩ := KX.out.all
      have ll7_3 := KX.out.lt
      obtain ⟨cc7_40, cc7_41, cc7_42, -, -, -⟩ := KY.out.all
      have ll7_4 := KY.out.lt
      obtain ⟨cc7_50, cc7_51, cc7_52, -, -, -⟩ := KZ.out.all
      have ll7_5 := KZ.out.lt
      obtain ⟨cc7_60, cc7_61, cc7_62, -, -, -⟩ := KW.out.all
      have ll7_6 := KW.out.lt
      go_wp2_with (fail)
      obtain ⟨mS, hS⟩ : ∃ m, addM K C ys K C ys = m := ⟨_, rfl⟩
      have HS := Lib.hid hS
      clear hS
      refine (iAdd K C K C q2 q2 qc2 qc2 ys ys _ OB.out.rd OB.out.rd n2 n2).mono ?_
      rintro e w8 ⟨vS, rfl, own, hb⟩
      rw [HS.out] at own ⊢
      obtain ⟨qS, qcS, rfl, -, -⟩ := own.form
      have nS := own.small
      have OA := Lib.hid (OA.out.keep hb)
      have OB := Lib.hid (OB.out.keep hb)
      have KA := Lib.hid (KA.out.step hb)
      have KB := Lib.hid (KB.out.step hb)
      have OM := Lib.hid (OM.out.keep hb)
      have KM := Lib.hid (KM.out.step hb)
      have OX := Lib.hid (OX.out.keep hb)
      have KX := Lib.hid (KX.out.step hb)
      have OY := Lib.hid (OY.out.keep hb)
      have KY := Lib.hid (KY.out.step hb)
      have OZ := Lib.hid (OZ.out.keep hb)
      have KZ := Lib.hid (KZ.out.step hb)
      have OW := Lib.hid (OW.out.keep hb)
      have KW := Lib.hid (KW.out.step hb)
      have B := Lib.hid (stepB B.out hb)
      clear hb
      have OS := Lib.hid (own.le (Nat.zero_le _))
      clear own
      obtain ⟨cc8_00, cc8_01, cc8_02, -, -, -⟩ := KA.out.all
      have ll8_0 := KA.out.lt
      obtain ⟨cc8_10, cc8_11, cc8_12, -, -, -⟩ := KB.out.all
      have ll8_1 := KB.out.lt
      obtain ⟨cc8_20, cc8_21, cc8_22, -, -, -⟩ := KM.out.all
      have ll8_2 := KM.out.lt
      obtain ⟨cc8_30, cc8_31, cc8_32, -, -, -⟩ := KX.out.all
      have ll8_3 := KX.out.lt
      obtain ⟨cc8_40, cc8_41, cc8_42, -, -, -⟩ := KY.out.all
      have ll8_4 := KY.out.lt
      obtain ⟨cc8_50, cc8_51, cc8_52, -, -, -⟩ := KZ.out.all
      have ll8_5 := KZ.out.lt
      obtain ⟨cc8_60, cc8_61, cc8_62, -, -, -⟩ := KW.out.all
      have ll8_6 := KW.out.lt
      go_wp2_with (fail)
      obtain ⟨mT, hT⟩ : ∃ m, mulM R K xs mS.r mS.c mS.zs = m := ⟨_, rfl⟩
      have HT := Lib.hid hT
      clear hT
      refine (iMul R K mS.r mS.c q1 qS qc1 qcS xs mS.zs _ (OA.out.old _).rd (OS.out.old _).rd n1 nS).mono ?_
      rintro e w9 ⟨vT, rfl, own, hb⟩
      rw [HT.out] at own ⊢
      obtain ⟨qT, qcT, rfl, -, -⟩ := own.form
      have nT := own.small
      have OA := Lib.hid ((OA.out.old _).keep hb)
      have OB := Lib.hid ((OB.out.old _).keep hb)
      have KA := Lib.hid ((KA.out.old _).step hb)
      have KB := Lib.hid ((KB.out.old _).step hb)
      have OM := Lib.hid ((OM.out.old _).keep hb)
      have KM := Lib.hid ((KM.out.old _).step hb)
      have OX := Lib.hid ((OX.out.old _).keep hb)
      have KX := Lib.hid ((KX.out.old _).step hb)
      have OY := Lib.hid ((OY.out.old _).keep hb)
      have KY := Lib.hid ((KY.out.old _).step hb)
      have OZ := Lib.hid ((OZ.out.old _).keep hb)
      have KZ := Lib.hid ((KZ.out.old _).step hb)
      have OW := Lib.hid ((OW.out.old _).keep hb)
      have KW := Lib.hid ((KW.out.old _).step hb)
      have OS := Lib.hid ((OS.out.old _).keep hb)
      have KS : Hid (Blk3 w9 w8.heap.size 26 (.int .i64 (mS.r)) (.int .i64 (mS.c)) (.slice qS mS.zs.length qcS)) := (Blk3.at_ _ _ _ _ rfl).step hb
      have B := Lib.hid (stepB (B.out.alloc B.out.size _) hb)
      clear hb
      have OT := Lib.hid (own.le (Nat.zero_le _))
      clear own
      obtain ⟨cc9_00, cc9_01, cc9_02, -, -, -⟩ := KA.out.all
      have ll9_0 := KA.out.lt
      obtain ⟨cc9_10, cc9_11, cc9_12, -, -, -⟩ := KB.out.all
      have ll9_1 := KB.out.lt
      obtain ⟨cc9_20, cc9_21, cc9_22, -, -, -⟩ := KM.out.all
      have ll9_2 := KM.out.lt
      obtain ⟨cc9_30, cc9_31, cc9_32, -, -, -⟩ := KX.out.all
      have ll9_3 := KX.out.lt
      obtain ⟨cc9_40, cc9_41, cc9_42, -, -, -⟩ := KY.out.all
      have ll9_4 := KY.out.lt
      obtain ⟨cc9_50, cc9_51, cc9_52, -, -, -⟩ := KZ.out.all
      have ll9_5 := KZ.out.lt
      obtain ⟨cc9_60, cc9_61, cc9_62, -, -, -⟩ := KW.out.all
      have ll9_6 := KW.out.lt
      obtain ⟨cc9_70, cc9_71, cc9_72, -, -, -⟩ := KS.out.all
      have ll9_7 := KS.out.lt
      go_wp2_with (fail)
      obtain ⟨mU, hU⟩ : ∃ m, addM R C X R C X = m := ⟨_, rfl⟩
      have HU := Lib.hid hU
      clear hU
      refine (iAdd R C R C qX qX qcX qcX X X _ (OX.out.old _).rd (OX.out.old _).rd lX lX).mono ?_
      rintro e w10 ⟨vU, rfl, own, hb⟩
      rw [HU.out] at own ⊢
      obtain ⟨qU, qcU, rfl, -, -⟩ := own.form
      have nU := own.small
      have OA := Lib.hid ((OA.out.old _).keep hb)
      have OB := Lib.hid ((OB.out.old _).keep hb)
      have KA := Lib.hid ((KA.out.old _).step hb)
      have KB := Lib.hid ((KB.out.old _).step hb)
      have OM := Lib.hid ((OM.out.old _).keep hb)
      have KM := Lib.hid ((KM.out.old _).step hb)
      have OX := Lib.hid ((OX.out.old _).keep hb)
      have KX := Lib.hid ((KX.out.old _).step hb)
      have OY := Lib.hid ((OY.out.old _).keep hb)
      have KY := Lib.hid ((KY.out.old _).step hb)
      have OZ := Lib.hid ((OZ.out.old _).keep hb)
      have KZ := Lib.hid ((KZ.out.old _).step hb)
      have OW := Lib.hid ((OW.out.old _).keep hb)
      have KW := Lib.hid ((KW.out.old _).step hb)
      have OS := Lib.hid ((OS.out.old _).keep hb)
      have KS := Lib.hid ((KS.out.old _).step hb)
      have OT := Lib.hid ((OT.out.old _).keep hb)
      have KT : Hid (Blk3 w10 w9.heap.size 26 (.int .i64 (mT.r)) (.int .i64 (mT.c)) (.slice qT mT.zs.length qcT)) := (Blk3.at_ _ _ _ _ rfl).step hb
      have B := Lib.hid (stepB (B.out.alloc B.out.size _) hb)
      clear hb
      have OU := Lib.hid (own.le (Nat.zero_le _))
      clear own
      obtain ⟨cc10_00, cc10_01, cc10_02, -, -, -⟩ := KA.out.all
      have ll10_0 := KA.out.lt
      obtain ⟨cc10_10, cc10_11, cc10_12, -, -, -⟩ := KB.out.all
      have ll10_1 := KB.out.lt
      obtain ⟨cc10_20, cc10_21, cc10_22, -, -, -⟩ := KM.out.all
      have ll10_2 := KM.out.lt
      obtain ⟨cc10_30, cc10_31, cc10_32, -, -, -⟩ := KX.out.all
      have ll10_3 := KX.out.lt
      obtain ⟨cc10_40, cc10_41, cc10_42, -, -, -⟩ := KY.out.all
      have ll10_4 := KY.out.lt
      obtain ⟨cc10_50, cc10_51, cc10_52, -, -, -⟩ := KZ.out.all
      have ll10_5 := KZ.out.lt
      obtain ⟨cc10_60, cc10_61, cc10_62, -, -, -⟩ := KW.out.all
      have ll10_6 := KW.out.lt
      obtain ⟨cc10_70, cc10_71, cc10_72, -, -, -⟩ := KS.out.all
      have ll10_7 := KS.out.lt
      obtain ⟨cc10_80, cc10_81, cc10_82, -, -, -⟩ := KT.out.all
      have ll10_8 := KT.out.lt
      go_wp2_with (fail)
      obtain ⟨mV, hV⟩ : ∃ m, scaleM R C X 2 = m := ⟨_, rfl⟩
      have HV := Lib.hid hV
      clear hV
      refine (iScale R C qX qcX X 2 _ (OX.out.old _).rd lX).mono ?_
      rintro e w11 ⟨vV, rfl, own, hb⟩
      rw [HV.out] at own ⊢
      obtain ⟨qV, qcV, rfl, -, -⟩ := own.form
      have nV := own.small
      have OA := Lib.hid ((OA.out.old _).keep hb)
      have OB := Lib.hid ((OB.out.old _).keep hb)
      have KA := Lib.hid ((KA.out.old _).step hb)
      have KB := Lib.hid ((KB.out.old _).step hb)
      have OM := Lib.hid ((OM.out.old _).keep hb)
      have KM := Lib.hid ((KM.out.old _).step hb)
      have OX := Lib.hid ((OX.out.old _).keep hb)
      have KX := Lib.hid ((KX.out.old _).step hb)
      have OY := Lib.hid ((OY.out.old _).keep hb)
      have KY := Lib.hid ((KY.out.old _).step hb)
      have OZ := Lib.hid ((OZ.out.old _).keep hb)
      have KZ := Lib.hid ((KZ.out.old _).step hb)
      have OW := Lib.hid ((OW.out.old _).keep hb)
      have KW := Lib.hid ((KW.out.old _).step hb)
      have OS := Lib.hid ((OS.out.old _).keep hb)
      have KS := Lib.hid ((KS.out.old _).step hb)
      have OT := Lib.hid ((OT.out.old _).keep hb)
      have KT := Lib.hid ((KT.out.old _).step hb)
      have OU := Lib.hid ((OU.out.old _).keep hb)
      have KU : Hid (Blk3 w11 w10.heap.size 26 (.int .i64 (mU.r)) (.int .i64 (mU.c)) (.slice qU mU.zs.length qcU)) := (Blk3.at_ _ _ _ _ rfl).step hb
      have B := Lib.hid (stepB (B.out.alloc B.out.size _) hb)
      clear hb
      have OV := Lib.hid (own.le (Nat.zero_le _))
      clear own
      obtain ⟨cc11_00, cc11_01, cc11_02, -, -, -⟩ := KA.out.all
      have ll11_0 := KA.out.lt
      obtain ⟨cc11_10, cc11_11, cc11_12, -, -, -⟩ := KB.out.all
      have ll11_1 := KB.out.lt
      obtain ⟨cc11_20, cc11_21, cc11_22, -, -, -⟩ := KM.out.all
      have ll11_2 := KM.out.lt
      obtain ⟨cc11_30, cc11_31, cc11_32, -, -, -⟩ := KX.out.all
      have ll11_3 := KX.out.lt
      obtain ⟨cc11_40, cc11_41, cc11_42, -, -, -⟩ := KY.out.all
      have ll11_4 := KY.out.lt
      obtain ⟨cc11_50, cc11_51, cc11_52, -, -, -⟩ := KZ.out.all
      have ll11_5 := KZ.out.lt
      obtain ⟨cc11_60, cc11_61, cc11_62, -, -, -⟩ := KW.out.all
      have ll11_6 := KW.out.lt
      obtain ⟨cc11_70, cc11_71, cc11_72, -, -, -⟩ := KS.out.all
      have ll11_7 := KS.out.lt
      obtain ⟨cc11_80, cc11_81, cc11_82, -, -, -⟩ := KT.out.all
      have ll11_8 := KT.out.lt
      obtain ⟨cc11_90, cc11_91, cc11_92, -, -, -⟩ := KU.out.all
      have ll11_9 := KU.out.lt
      rcases Bool.eq_false_or_eq_true mS.ok with hfS | hfS
      rotate_left
      · rw [hfS]
        obtain ⟨cc12_00, cc12_01, cc12_02, -, -, -⟩ := KA.out.all
        have ll12_0 := KA.out.lt
        obtain ⟨cc12_10, cc12_11, cc12_12, -, -, -⟩ := KB.out.all
        have ll12_1 := KB.out.lt
        obtain ⟨cc12_20, cc12_21, cc12_22, -, -, -⟩ := KM.out.all
        have ll12_2 := KM.out.lt
        obtain ⟨cc12_30, cc12_31, cc12_32, -, -, -⟩ := KX.out.all
        have ll12_3 := KX.out.lt
        obtain ⟨cc12_40, cc12_41, cc12_42, -, -, -⟩ := KY.out.all
        have ll12_4 := KY.out.lt
        obtain ⟨cc12_50, cc12_51, cc12_52, -, -, -⟩ := KZ.out.all
        have ll12_5 := KZ.out.lt
        obtain ⟨cc12_60, cc12_61, cc12_62, -, -, -⟩ := KW.out.all
        have ll12_6 := KW.out.lt
        obtain ⟨cc12_70, cc12_71, cc12_72, -, -, -⟩ := KS.out.all
        have ll12_7 := KS.out.lt
        obtain ⟨cc12_80, cc12_81, cc12_82, -, -, -⟩ := KT.out.all
        have ll12_8 := KT.out.lt
        obtain ⟨cc12_90, cc12_91, cc12_92, -, -, -⟩ := KU.out.all
        have ll12_9 := KU.out.lt
        go_wp2_with (fail)
        go_ret
        exact ⟨rfl, (B.out.alloc B.out.size _)⟩
      rw [hfS]
      rcases Bool.eq_false_or_eq_true mT.ok with hfT | hfT
      rotate_left
      · rw [hfT]
        obtain ⟨cc12_00, cc12_01, cc12_02, -, -, -⟩ := KA.out.all
        have ll12_0 := KA.out.lt
        obtain ⟨cc12_10, cc12_11, cc12_12, -, -, -⟩ := KB.out.all
        have ll12_1 := KB.out.lt
        obtain ⟨cc12_20, cc12_21, cc12_22, -, -, -⟩ := KM.out.all
        have ll12_2 := KM.out.lt
        obtain ⟨cc12_30, cc12_31, cc12_32, -, -, -⟩ := KX.out.all
        have ll12_3 := KX.out.lt
        obtain ⟨cc12_40, cc12_41, cc12_42, -, -, -⟩ := KY.out.all
        have ll12_4 := KY.out.lt
        obtain ⟨cc12_50, cc12_51, cc12_52, -, -, -⟩ := KZ.out.all
        have ll12_5 := KZ.out.lt
        obtain ⟨cc12_60, cc12_61, cc12_62, -, -, -⟩ := KW.out.all
        have ll12_6 := KW.out.lt
        obtain ⟨cc12_70, cc12_71, cc12_72, -, -, -⟩ := KS.out.all
        have ll12_7 := KS.out.lt
        obtain ⟨cc12_80, cc12_81, cc12_82, -, -, -⟩ := KT.out.all
        have ll12_8 := KT.out.lt
        obtain ⟨cc12_90, cc12_91, cc12_92, -, -, -⟩ := KU.out.all
        have ll12_9 := KU.out.lt
        go_wp2_with (fail)
        go_ret
        exact ⟨rfl, (B.out.alloc B.out.size _)⟩
      rw [hfT]
      rcases Bool.eq_false_or_eq_true mU.ok with hfU | hfU
      rotate_left
      · rw [hfU]
        obtain ⟨cc12_00, cc12_01, cc12_02, -, -, -⟩ := KA.out.all
        have ll12_0 := KA.out.lt
        obtain ⟨cc12_10, cc12_11, cc12_12, -, -, -⟩ := KB.out.all
        have ll12_1 := KB.out.lt
        obtain ⟨cc12_20, cc12_21, cc12_22, -, -, -⟩ := KM.out.all
        have ll12_2 := KM.out.lt
        obtain ⟨cc12_30, cc12_31, cc12_32, -, -, -⟩ := KX.out.all
        have ll12_3 := KX.out.lt
        obtain ⟨cc12_40, cc12_41, cc12_42, -, -, -⟩ := KY.out.all
        have ll12_4 := KY.out.lt
        obtain ⟨cc12_50, cc12_51, cc12_52, -, -, -⟩ := KZ.out.all
        have ll12_5 := KZ.out.lt
        obtain ⟨cc12_60, cc12_61, cc12_62, -, -, -⟩ := KW.out.all
        have ll12_6 := KW.out.lt
        obtain ⟨cc12_70, cc12_71, cc12_72, -, -, -⟩ := KS.out.all
        have ll12_7 := KS.out.lt
        obtain ⟨cc12_80, cc12_81, cc12_82, -, -, -⟩ := KT.out.all
        have ll12_8 := KT.out.lt
        obtain ⟨cc12_90, cc12_91, cc12_92, -, -, -⟩ := KU.out.all
        have ll12_9 := KU.out.lt
        go_wp2_with (fail)
        go_ret
        exact ⟨rfl, (B.out.alloc B.out.size _)⟩
      rw [hfU]
      rcases Bool.eq_false_or_eq_true mV.ok with hfV | hfV
      rotate_left
      · rw [hfV]
        obtain ⟨cc12_00, cc12_01, cc12_02, -, -, -⟩ := KA.out.all
        have ll12_0 := KA.out.lt
        obtain ⟨cc12_10, cc12_11, cc12_12, -, -, -⟩ := KB.out.all
        have ll12_1 := KB.out.lt
        obtain ⟨cc12_20, cc12_21, cc12_22, -, -, -⟩ := KM.out.all
        have ll12_2 := KM.out.lt
        obtain ⟨cc12_30, cc12_31, cc12_32, -, -, -⟩ := KX.out.all
        have ll12_3 := KX.out.lt
        obtain ⟨cc12_40, cc12_41, cc12_42, -, -, -⟩ := KY.out.all
        have ll12_4 := KY.out.lt
        obtain ⟨cc12_50, cc12_51, cc12_52, -, -, -⟩ := KZ.out.all
        have ll12_5 := KZ.out.lt
        obtain ⟨cc12_60, cc12_61, cc12_62, -, -, -⟩ := KW.out.all
        have ll12_6 := KW.out.lt
        obtain ⟨cc12_70, cc12_71, cc12_72, -, -, -⟩ := KS.out.all
        have ll12_7 := KS.out.lt
        obtain ⟨cc12_80, cc12_81, cc12_82, -, -, -⟩ := KT.out.all
        have ll12_8 := KT.out.lt
        obtain ⟨cc12_90, cc12_91, cc12_92, -, -, -⟩ := KU.out.all
        have ll12_9 := KU.out.lt
        go_wp2_with (fail)
        go_ret
        exact ⟨rfl, (B.out.alloc B.out.size _)⟩
      rw [hfV]
      obtain ⟨eT, eU⟩ := ring_dist (xs := xs) (v := mV) (u := mU) H2.out H3.out HS.out HT.out (by rw [XH.out]; exact HU.out) (by rw [XH.out]; exact HV.out) hfS hfT hfU
      skip
      have ET := Lib.hid eT
      have EU := Lib.hid eU
      clear eT eU
      obtain ⟨cc12_00, cc12_01, cc12_02, -, -, -⟩ := KA.out.all
      have ll12_0 := KA.out.lt
      obtain ⟨cc12_10, cc12_11, cc12_12, -, -, -⟩ := KB.out.all
      have ll12_1 := KB.out.lt
      obtain ⟨cc12_20, cc12_21, cc12_22, -, -, -⟩ := KM.out.all
      have ll12_2 := KM.out.lt
      obtain ⟨cc12_30, cc12_31, cc12_32, -, -, -⟩ := KX.out.all
      have ll12_3 := KX.out.lt
      obtain ⟨cc12_40, cc12_41, cc12_42, -, -, -⟩ := KY.out.all
      have ll12_4 := KY.out.lt
      obtain ⟨cc12_50, cc12_51, cc12_52, -, -, -⟩ := KZ.out.all
      have ll12_5 := KZ.out.lt
      obtain ⟨cc12_60, cc12_61, cc12_62, -, -, -⟩ := KW.out.all
      have ll12_6 := KW.out.lt
      obtain ⟨cc12_70, cc12_71, cc12_72, -, -, -⟩ := KS.out.all
      have ll12_7 := KS.out.lt
      obtain ⟨cc12_80, cc12_81, cc12_82, -, -, -⟩ := KT.out.all
      have ll12_8 := KT.out.lt
      obtain ⟨cc12_90, cc12_91, cc12_92, -, -, -⟩ := KU.out.all
      have ll12_9 := KU.out.lt
      go_wp2_with (fail)
      refine (sSameE mT mU qT qU qcT qcU _ ET.out (OT.out.old _).rd (OU.out.old _).rd nT).mono ?_
      rintro e w12 ⟨rfl, hb⟩
      have OA := Lib.hid ((OA.out.old _).keep hb)
      have OB := Lib.hid ((OB.out.old _).keep hb)
      have KA := Lib.hid ((KA.out.old _).step hb)
      have KB := Lib.hid ((KB.out.old _).step hb)
      have OM := Lib.hid ((OM.out.old _).keep hb)
      have KM := Lib.hid ((KM.out.old _).step hb)
      have OX := Lib.hid ((OX.out.old _).keep hb)
      have KX := Lib.hid ((KX.out.old _).step hb)
      have OY := Lib.hid ((OY.out.old _).keep hb)
      have KY := Lib.hid ((KY.out.old _).step hb)
      have OZ := Lib.hid ((OZ.out.old _).keep hb)
      have KZ := Lib.hid ((KZ.out.old _).step hb)
      have OW := Lib.hid ((OW.out.old _).keep hb)
      have KW := Lib.hid ((KW.out.old _).step hb)
      have OS := Lib.hid ((OS.out.old _).keep hb)
      have KS := Lib.hid ((KS.out.old _).step hb)
      have OT := Lib.hid ((OT.out.old _).keep hb)
      have KT := Lib.hid ((KT.out.old _).step hb)
      have OU := Lib.hid ((OU.out.old _).keep hb)
      have KU := Lib.hid ((KU.out.old _).step hb)
      have OV := Lib.hid ((OV.out.old _).keep hb)
      have KV : Hid (Blk3 w12 w11.heap.size 26 (.int .i64 (mV.r)) (.int .i64 (mV.c)) (.slice qV mV.zs.length qcV)) := (Blk3.at_ _ _ _ _ rfl).step hb
      have B := Lib.hid (stepB (B.out.alloc B.out.size _) hb)
      clear hb
      obtain ⟨cc13_00, cc13_01, cc13_02, -, -, -⟩ := KA.out.all
      have ll13_0 := KA.out.lt
      obtain ⟨cc13_10, cc13_11, cc13_12, -, -, -⟩ := KB.out.all
      have ll13_1 := KB.out.lt
      obtain ⟨cc13_20, cc13_21, cc13_22, -, -, -⟩ := KM.out.all
      have ll13_2 := KM.out.lt
      obtain ⟨cc13_30, cc13_31, cc13_32, -, -, -⟩ := KX.out.all
      have ll13_3 := KX.out.lt
      obtain ⟨cc13_40, cc13_41, cc13_42, -, -, -⟩ := KY.out.all
      have ll13_4 := KY.out.lt
      obtain ⟨cc13_50, cc13_51, cc13_52, -, -, -⟩ := KZ.out.all
      have ll13_5 := KZ.out.lt
      obtain ⟨cc13_60, cc13_61, cc13_62, -, -, -⟩ := KW.out.all
      have ll13_6 := KW.out.lt
      obtain ⟨cc13_70, cc13_71, cc13_72, -, -, -⟩ := KS.out.all
      have ll13_7 := KS.out.lt
      obtain ⟨cc13_80, cc13_81, cc13_82, -, -, -⟩ := KT.out.all
      have ll13_8 := KT.out.lt
      obtain ⟨cc13_90, cc13_91, cc13_92, -, -, -⟩ := KU.out.all
      have ll13_9 := KU.out.lt
      obtain ⟨cc13_100, cc13_101, cc13_102, -, -, -⟩ := KV.out.all
      have ll13_10 := KV.out.lt
      go_wp2_with (fail)
      refine (iSameE mU mV qU qV qcU qcV _ EU.out OU.out.rd OV.out.rd nU nV).mono ?_
      rintro e w13 ⟨rfl, hb⟩
      have OA := Lib.hid (OA.out.keep hb)
      have OB := Lib.hid (OB.out.keep hb)
      have KA := Lib.hid (KA.out.step hb)
      have KB := Lib.hid (KB.out.step hb)
      have OM := Lib.hid (OM.out.keep hb)
      have KM := Lib.hid (KM.out.step hb)
      have OX := Lib.hid (OX.out.keep hb)
      have KX := Lib.hid (KX.out.step hb)
      have OY := Lib.hid (OY.out.keep hb)
      have KY := Lib.hid (KY.out.step hb)
      have OZ := Lib.hid (OZ.out.keep hb)
      have KZ := Lib.hid (KZ.out.step hb)
      have OW := Lib.hid (OW.out.keep hb)
      have KW := Lib.hid (KW.out.step hb)
      have OS := Lib.hid (OS.out.keep hb)
      have KS := Lib.hid (KS.out.step hb)
      have OT := Lib.hid (OT.out.keep hb)
      have KT := Lib.hid (KT.out.step hb)
      have OU := Lib.hid (OU.out.keep hb)
      have KU := Lib.hid (KU.out.step hb)
      have OV := Lib.hid (OV.out.keep hb)
      have KV := Lib.hid (KV.out.step hb)
      have B := Lib.hid (stepB B.out hb)
      clear hb
      obtain ⟨cc14_00, cc14_01, cc14_02, -, -, -⟩ := KA.out.all
      have ll14_0 := KA.out.lt
      obtain ⟨cc14_10, cc14_11, cc14_12, -, -, -⟩ := KB.out.all
      have ll14_1 := KB.out.lt
      obtain ⟨cc14_20, cc14_21, cc14_22, -, -, -⟩ := KM.out.all
      have ll14_2 := KM.out.lt
      obtain ⟨cc14_30, cc14_31, cc14_32, -, -, -⟩ := KX.out.all
      have ll14_3 := KX.out.lt
      obtain ⟨cc14_40, cc14_41, cc14_42, -, -, -⟩ := KY.out.all
      have ll14_4 := KY.out.lt
      obtain ⟨cc14_50, cc14_51, cc14_52, -, -, -⟩ := KZ.out.all
      have ll14_5 := KZ.out.lt
      obtain ⟨cc14_60, cc14_61, cc14_62, -, -, -⟩ := KW.out.all
      have ll14_6 := KW.out.lt
      obtain ⟨cc14_70, cc14_71, cc14_72, -, -, -⟩ := KS.out.all
      have ll14_7 := KS.out.lt
      obtain ⟨cc14_80, cc14_81, cc14_82, -, -, -⟩ := KT.out.all
      have ll14_8 := KT.out.lt
      obtain ⟨cc14_90, cc14_91, cc14_92, -, -, -⟩ := KU.out.all
      have ll14_9 := KU.out.lt
      obtain ⟨cc14_100, cc14_101, cc14_102, -, -, -⟩ := KV.out.all
      have ll14_10 := KV.out.lt
      go_wp2_with (fail)
      go_ret
      exact ⟨rfl, B.out⟩
  · have hbig' : 1048576 < len0 := by omega
    clear hbig
    go_enter Try.func3, Try.ntmps3
    go_wp2_with (fail)
    refine (big_yes w a0 len0 cap0 hbig').mono ?_
    rintro e w1 ⟨rfl, rfl⟩
    go_wp2_with (fail)
    go_ret
    exact ⟨rfl, Below.refl _ _⟩

/-! ### The row's step -/
set_option maxRecDepth 100000 in
theorem lifted (os : Os) (started : os.Started) (H : Type) (enc : TypeId × Value → H) :
    ReturnsInHanded {} Try.checked os 3 .any (Rows.fnRingSpec.pre6 enc Try.prog Try.f3 Rows.fnRingRow.domain false) (Rows.fnRingSpec.post enc Try.prog Try.f3 false true false false) := by
  refine returnsInHanded_of_change (C := Try.checked) own started (by kernel_rfl) Try.func3
    (ChangeSpec.witness6 (enc := enc) (C := Try.checked) false ⟨#[], #[.slice none 0 0], []⟩ 8 (by kernel_rfl) (by kernel_rfl) (by kernel_rfl) (by kernel_rfl)) ?_
  intro W base args ds gs before hval0 hW hcnd _
  have hval : ∀ (j : Nat) t v, Try.f3.params[j]? = some t → args[j]? = some v → Value.okWide Try.prog W .any base t v := hval0
  have hW' := hW
  obtain ⟨p, q, hA0, hV, rfl, hfz, hnd⟩ := hW
  have hA : DataW.TrodAll enc Try.prog W 0 (fun _ => true) true Try.f3.params.toList args.toList ds p := hA0
  rw [Try.params3] at hA hval
  obtain ⟨v0, vs0, d0, ds0, p0, q0, hargs, rfl, rfl, h0, r0⟩ := trodAll_cons hA
  obtain ⟨rfl, rfl, rfl⟩ := trodAll_nil r0
  obtain rfl : args = #[v0] := by cases args; simp_all
  obtain ⟨rfl, rfl⟩ := trodVars_none hV
  have k0 := h0
  have lt0 : ∀ x ∈ p0, x.block < W.heap.size := by obtain ⟨m, hm⟩ := k0; exact DataW.trod_lt m _ _ _ hm
  obtain ⟨a0, len0, cap0, rfl⟩ := okWide_slice Try.underlying22 (hval 0 22 v0 rfl rfl)
  obtain ⟨fuel0, hf0⟩ := h0
  obtain ⟨z0, w0⟩ : ∃ zs, IsRow .u8 W a0 len0 cap0 zs := isRow_of Try.underlying22 Try.underlying5 (by kernel_rfl) (by simpa [Value.cells] using hf0)
  clear hA0 hval0
  refine (walk a0 len0 cap0 z0 W w0).mono fun e W' ⟨he, bel⟩ => ?_
  subst he
  exact ⟨_, rfl, _, _, _, [], _, [], hW', trodAll_mk1 (shut_bool Try.underlying4 _), (trodAll_cons_mk (Below.trod laidOut (by kernel_rfl) (of_decide_eq_true (by kernel_rfl)) k0 bel lt0) trodAll_mk0), rfl, bel.frame _, fun h => by cases h⟩

theorem over : Rows.fnRingRow.holds Try.pinned (OpenSpec.ofChange Rows.fnRingSpec) :=
  OpenClaim.holds_of_wide 3 Try.f3 rfl rfl rfl rfl rfl rfl rfl ⟨rfl, rfl, rfl, rfl, rfl⟩ rfl rfl rfl rfl rfl (by kernel_rfl) Try.func3 (by kernel_rfl)
    (of_decide_eq_true (by kernel_rfl)) (by unfold Func.isWrapper; first | (rw [if_pos (by decide +kernel)]; kernel_rfl) | (rw [if_neg (by decide +kernel)]; exact ⟨rfl, rfl⟩))
    (fun os started H enc _ => lifted os started H enc)

/-- ████ THE STATEMENT ████ -/
theorem proved : Rows.FnRingSaid := over
#print axioms proved
end Go.Proofs.Ytiggioccmlbhhaa.fnRing
