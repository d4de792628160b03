/-
  Proved: for every code, the law FnInverseMod returns true: inverses and solutions over residues solve, and where there is none, there is no determinant or it is 0.
  Conditions: none beyond the row's own (the argument reads as data).
-/
import Derived.Test.YtcapddcmnjeloaaRows
import Derived.ChangeOld
import Derived.Below
import Derived.Deep.RegionHeld3
import Derived.Deep.DeepCutAuto
import Derived.WalkKit
import Derived.ProofKit
import Derived.OpenShut
import Derived.ShutString
import Derived.Carry
import Derived.Lib.SmallJoins
import Derived.Test.YtcapddcmnjeloaaPk1
import Derived.Test.YtcapddcmnjeloaaPk10
import Derived.Test.YtcapddcmnjeloaaPk14
import Derived.Test.YtcapddcmnjeloaaPk20
import Derived.Test.YtcapddcmnjeloaaPk21

namespace Go.Proofs.Ytcapddcmnjeloaa.fnInverseMod
open Go.ChangeShapes Go.WideShapes Go.ChangeAt Go.RowKit
open Go.ChangeMaps (open_string shut_string)
set_option linter.unusedVariables false

theorem own : ownKnob Try.prog.godebug = none := by kernel_rfl
theorem laidOut : laidOutB Try.prog = true := by kernel_rfl

/-- What the walk is told of a slice of integers that came in: it is nil; or it leads to a row of 'cap' cells, the numbers 'zs' (the first 'len' are its elements), each fitting its kind. -/
def IsRow (k : IntKind) (w : World) (a : Option Addr) (len cap : Nat) (zs : List Int) : Prop :=
  (a = none ∧ len = 0 ∧ cap = 0 ∧ zs = []) ∨
  ∃ x, a = some x ∧ len ≤ cap ∧ cap ≤ maxLen ∧ zs.length = cap ∧ (∀ i, i < zs.length → w.cell? (x.add i) = some (.int k (zs.getD i 0))) ∧ ∀ n ∈ zs, (Lit.int k n).wf = true
theorem isRow_of {H : Type} {enc : TypeId × Value → H} {P : Program} {W : World} {base : Nat} {held : Bool} {t e : TypeId} {k : IntKind} {a : Option Addr} {len cap fuel : Nat} {x : DataW H × List MemPlace}
    (ht : P.underlying t = some (.slice e)) (he : P.underlying e = some (.int k)) (hc : P.cellsOf e = 1) (hf : DataW.trod enc P W base (fun _ => true) held fuel t [.slice a len cap] = some x) : ∃ zs, IsRow k W a len cap zs := by
  rcases open_ints ht he hc hf with ⟨hcs, _⟩ | ⟨x, l, c, zs, hcs, _, hl, hm, hz, _, hcell, hwz⟩
  · simp at hcs
    obtain ⟨rfl, rfl, rfl⟩ := hcs
    exact ⟨[], .inl ⟨rfl, rfl, rfl, rfl⟩⟩
  · simp at hcs
    obtain ⟨rfl, rfl, rfl⟩ := hcs
    exact ⟨zs, .inr ⟨_, rfl, hl, hm, by simpa using hz, hcell, hwz⟩⟩
theorem _root_.Go.Proofs.Ytcapddcmnjeloaa.Own.old {B : Nat} {w : World} {v : Value} {zs : List Int} (h : Own B w v zs) (o : Obj) : Own B (w.alloc o) v zs := h.keep ((Below.refl _ _).alloc (Nat.le_refl _) o)
theorem _root_.Go.Proofs.Ytcapddcmnjeloaa.Own.rd {B : Nat} {w : World} {a : Option Addr} {n cap : Nat} {zs : List Int} (h : Own B w (.slice a n cap) zs) : Rd w a zs := by
  obtain ⟨a', c', e, hr, -⟩ := h.form
  injection e with e1 e2 e3
  rw [e1]; exact hr
theorem sixF {W w' : World} {a b : Nat} {t t2 : TypeId} {p q r p2 q2 r2 : Value} (h0 : Blk3 W a t p q r) (h1 : Blk3 W b t2 p2 q2 r2) (hb : Below W.heap.size W w') :
    w'.cell? ⟨a, 0, none⟩ = some p ∧ w'.cell? ⟨a, 1, none⟩ = some q ∧ w'.cell? ⟨a, 2, none⟩ = some r ∧ w'.cell? ⟨b, 0, none⟩ = some p2 ∧ w'.cell? ⟨b, 1, none⟩ = some q2 ∧ w'.cell? ⟨b, 2, none⟩ = some r2 := by
  obtain ⟨a1, a2, a3, -, -, -⟩ := (h0.step hb).all
  obtain ⟨b1, b2, b3, -, -, -⟩ := (h1.step hb).all
  exact ⟨a1, a2, a3, b1, b2, b3⟩
theorem iSameE (x y : MR) (a b : Option Addr) (m n : Nat) (w : World) (e : x = y) (h : Rd w a x.zs) (h' : Rd w b y.zs) (hn : x.zs.length ≤ 16777216) (hn' : y.zs.length ≤ 16777216) :
    Calls Try.prog 16 #[.agg #[.int .i64 x.r, .int .i64 x.c, .slice a x.zs.length m], .agg #[.int .i64 y.r, .int .i64 y.c, .slice b y.zs.length n]] w (Gives (.bool true) w) := by
  subst e
  have := iSame x.r x.c x.r x.c a b m n x.zs x.zs w h h' hn hn'
  rw [sameM_self] at this
  exact this
theorem own_spot8 {B n c : Nat} {w : World} {a : Option Addr} {zs : List Int} (h : Own B w (.slice a n c) zs) : Spot a := by
  rcases h with ⟨hv, -⟩ | ⟨g, cap, hv, -⟩
  · simp only [Value.slice.injEq] at hv
    exact .inl hv.1
  · simp only [Value.slice.injEq] at hv
    exact .inr ⟨_, _, hv.1⟩
theorem ixW (n : Nat) (hn : n ≤ 12) (i j : Nat) (hi : i < n) (hj : j < n) : ∃ P : Nat, i * n + j = P ∧ P < n * n ∧ IntKind.i64.wrap ((i : Int) * (n : Int)) = (i : Int) * (n : Int) ∧ IntKind.i64.wrap ((i : Int) * (n : Int) + (j : Int)) = (P : Int) := by
  have lN : n * n ≤ 144 := Nat.mul_le_mul hn hn
  have h1 : i * n + j < n * n := idx_lt hi hj
  have c1 : (i : Int) * (n : Int) = ((i * n : Nat) : Int) := (Int.natCast_mul _ _).symm
  refine ⟨i * n + j, rfl, by omega, IntWalk.i64_in _ (by rw [c1]; omega), ?_⟩
  rw [show (i : Int) * (n : Int) + (j : Int) = ((i * n + j : Nat) : Int) by rw [c1]; omega]
  exact IntWalk.i64_in _ (by omega)
theorem codeIn_of_row {w : World} {a : Option Addr} {len cap : Nat} {zs : List Int} (h : IsRow .u8 w a len cap zs) : CodeIn w a len := by
  rcases h with ⟨rfl, rfl, rfl, rfl⟩ | ⟨x, rfl, hl, hm, hz, hcell, hwf⟩
  · exact codeIn_none w
  · exact codeIn_some hl hm hz hcell hwf
set_option maxRecDepth 100000 in
set_option maxHeartbeats 16000000 in

theorem walk (a0 : Option Addr) (len0 cap0 : Nat) (z0 : List Int) (w : World) (w0 : IsRow .u8 w a0 len0 cap0 z0) :
    Calls Try.prog 3 #[.slice a0 len0 cap0] w fun e w' => e = .returned (.bool true) ∧ Below w.heap.size w w' := by
  have hc : CodeIn w a0 len0 := codeIn_of_row w0
  have hl := hc.1
  have HC := Lib.hid hc
  clear w0 hc
  unfold maxLen at hl
  by_cases hbig : len0 ≤ 1048576
  · go_enter Try.func3, Try.ntmps3
    go_wp2_with (fail)
    refine (big_no w a0 len0 cap0 hbig).mono ?_
    rintro e w1 ⟨rfl, rfl⟩
    go_wp2_with (fail)
    refine (drawSv w a0 len0 cap0 HC.out).mono ?_
    rintro e w1 ⟨r, c, q1, qc1, xs, qb, qbc, bs, p, rfl, o1, l1, o2, l2, ⟨p0, p1⟩, hb⟩
    have B := Lib.hid hb
    have SP := Lib.hid (own_spot8 o1)
    have OB := Lib.hid (o2.le (Nat.zero_le _))
    have nb : bs.length ≤ 16777216 := by omega
    have OA := Lib.hid (o1.le (Nat.zero_le _))
    have n1 : xs.length ≤ 16777216 := by omega
    clear hb o1 o2
    go_wp2_with (fail)
    obtain ⟨mV, hmV⟩ : ∃ m, ivX r c p xs = m := ⟨_, rfl⟩
    have HmV := Lib.hid hmV
    clear hmV
    refine (iIvx r c p q1 qc1 xs _ (OA.out.old _).rd n1).mono ?_
    rintro e w2 ⟨vV, rfl, own, hb⟩
    rw [HmV.out] at own ⊢
    obtain ⟨qV, qcV, rfl, -, -⟩ := own.form
    have nV := own.small
    have OA := Lib.hid ((OA.out.old _).keep hb)
    have OB := Lib.hid ((OB.out.old _).keep hb)
    have KA : Hid (Blk3 w2 w1.heap.size 26 (.int .i64 (r)) (.int .i64 (c)) (.slice q1 xs.length qc1)) := (Blk3.at_ _ _ _ _ rfl).step hb
    have B := Lib.hid (stepB (B.out.alloc B.out.size _) hb)
    clear hb
    have OV := Lib.hid (own.le (Nat.zero_le _))
    clear own
    obtain ⟨cc1_00, cc1_01, cc1_02, -, -, -⟩ := KA.out.all
    have ll1_0 := KA.out.lt
    go_wp2_with (fail)
    refine (sIvx r c p q1 qc1 xs _ (OA.out.old _).rd n1 SP.out).mono ?_
    rintro e w3 ⟨vT, rfl, own, hb⟩
    rw [HmV.out] at own ⊢
    obtain ⟨qT, qcT, rfl, -, -⟩ := own.form
    have nT := own.small
    have OA := Lib.hid ((OA.out.old _).keep hb)
    have OB := Lib.hid ((OB.out.old _).keep hb)
    have KA := Lib.hid ((KA.out.old _).step hb)
    have OV := Lib.hid ((OV.out.old _).keep hb)
    have KV : Hid (Blk3 w3 w2.heap.size 26 (.int .i64 (mV.r)) (.int .i64 (mV.c)) (.slice qV mV.zs.length qcV)) := (Blk3.at_ _ _ _ _ rfl).step hb
    have B := Lib.hid (stepB (B.out.alloc B.out.size _) hb)
    clear hb
    have OT := Lib.hid (own.le (Nat.zero_le _))
    clear own
    obtain ⟨cc2_00, cc2_01, cc2_02, -, -, -⟩ := KA.out.all
    have ll2_0 := KA.out.lt
    obtain ⟨cc2_10, cc2_11, cc2_12, -, -, -⟩ := KV.out.all
    have ll2_1 := KV.out.lt
    go_wp2_with (fail)
    obtain ⟨d, hd⟩ : ∃ m, (dtM r c p xs).1 = m := ⟨_, rfl⟩
    have Hd := Lib.hid hd
    clear hd
    obtain ⟨bd, hbd⟩ : ∃ m, (dtM r c p xs).2 = m := ⟨_, rfl⟩
    have Hbd := Lib.hid hbd
    clear hbd
    refine (iDetM r c p q1 qc1 xs _ (OA.out.old _).rd n1).mono ?_
    rintro e w4 ⟨rfl, hb⟩
    have OA := Lib.hid ((OA.out.old _).keep hb)
    have OB := Lib.hid ((OB.out.old _).keep hb)
    have KA := Lib.hid ((KA.out.old _).step hb)
    have OV := Lib.hid ((OV.out.old _).keep hb)
    have KV := Lib.hid ((KV.out.old _).step hb)
    have OT := Lib.hid ((OT.out.old _).keep hb)
    have KT : Hid (Blk3 w4 w3.heap.size 26 (.int .i64 (mV.r)) (.int .i64 (mV.c)) (.slice qT mV.zs.length qcT)) := (Blk3.at_ _ _ _ _ rfl).step hb
    have B := Lib.hid (stepB (B.out.alloc B.out.size _) hb)
    clear hb
    rw [Hd.out, Hbd.out]
    obtain ⟨cc3_00, cc3_01, cc3_02, -, -, -⟩ := KA.out.all
    have ll3_0 := KA.out.lt
    obtain ⟨cc3_10, cc3_11, cc3_12, -, -, -⟩ := KV.out.all
    have ll3_1 := KV.out.lt
    obtain ⟨cc3_20, cc3_21, cc3_22, -, -, -⟩ := KT.out.all
    have ll3_2 := KT.out.lt
    go_wp2_with (fail)
    obtain ⟨sX, hsX⟩ : ∃ m, (svX r c p xs bs).1 = m := ⟨_, rfl⟩
    have HsX := Lib.hid hsX
    clear hsX
    obtain ⟨bX, hbX⟩ : ∃ m, (svX r c p xs bs).2 = m := ⟨_, rfl⟩
    have HbX := Lib.hid hbX
    clear hbX
    refine (iSv r c p q1 qc1 xs qb qbc bs _ OA.out.rd n1 OB.out.rd nb).mono ?_
    rintro e w5 ⟨vX, rfl, own, hb⟩
    rw [HsX.out] at own
    rw [HbX.out]
    obtain ⟨qX, qcX, rfl, -, -⟩ := own.form
    have nX := own.small
    have OA := Lib.hid (OA.out.keep hb)
    have OB := Lib.hid (OB.out.keep hb)
    have KA := Lib.hid (KA.out.step hb)
    have OV := Lib.hid (OV.out.keep hb)
    have KV := Lib.hid (KV.out.step hb)
    have OT := Lib.hid (OT.out.keep hb)
    have KT := Lib.hid (KT.out.step hb)
    have B := Lib.hid (stepB B.out hb)
    clear hb
    have OX := Lib.hid (own.le (Nat.zero_le _))
    clear own
    obtain ⟨cc4_00, cc4_01, cc4_02, -, -, -⟩ := KA.out.all
    have ll4_0 := KA.out.lt
    obtain ⟨cc4_10, cc4_11, cc4_12, -, -, -⟩ := KV.out.all
    have ll4_1 := KV.out.lt
    obtain ⟨cc4_20, cc4_21, cc4_22, -, -, -⟩ := KT.out.all
    have ll4_2 := KT.out.lt
    rcases Bool.eq_false_or_eq_true mV.ok with hf | hf
    rotate_left
    · rw [hf]
      have z1 := svX_no (p := p) (bs := bs) (.inl (by rw [HmV.out]; exact hf))
      have zb : bX = false := by rw [← HbX.out, z1]
      have zx : sX.length = 0 := by rw [← HsX.out, z1]; rfl
      have zl : ((sX.length : Int) == 0) = true := by rw [zx]; rfl
      have zd := ivx_none l1 (by rw [HmV.out]; exact hf)
      rw [Hbd.out, Hd.out] at zd
      rw [zb]
      clear z1 zb zx
      rcases Bool.eq_false_or_eq_true bd with hbd | hbd
      rotate_left
      · rw [hbd]
        clear zd
        obtain ⟨cc5_00, cc5_01, cc5_02, -, -, -⟩ := KA.out.all
        have ll5_0 := KA.out.lt
        obtain ⟨cc5_10, cc5_11, cc5_12, -, -, -⟩ := KV.out.all
        have ll5_1 := KV.out.lt
        obtain ⟨cc5_20, cc5_21, cc5_22, -, -, -⟩ := KT.out.all
        have ll5_2 := KT.out.lt
        go_wp2_with (fail)
        go_ret
        exact ⟨rfl, B.out⟩
      · obtain rfl : d = 0 := by rcases zd with h | h; rw [hbd] at h; cases h; exact h
        rw [hbd]
        clear zd
        obtain ⟨cc5_00, cc5_01, cc5_02, -, -, -⟩ := KA.out.all
        have ll5_0 := KA.out.lt
        obtain ⟨cc5_10, cc5_11, cc5_12, -, -, -⟩ := KV.out.all
        have ll5_1 := KV.out.lt
        obtain ⟨cc5_20, cc5_21, cc5_22, -, -, -⟩ := KT.out.all
        have ll5_2 := KT.out.lt
        go_wp2_with (fail)
        go_ret
        exact ⟨rfl, B.out⟩
    rw [hf]
    obtain ⟨R, rfl, rfl, h12, p2, p3, hx, nx, hpb, hb2, hd, hred, hiv, hI⟩ := ivx_found (by rw [HmV.out]; exact hf)
    rw [Hd.out] at hd
    have dn : (d == 0) = false := by simpa using hd
    have HX := Lib.hid hx
    have NX := Lib.hid nx
    have HPB := Lib.hid hpb
    have HRED := Lib.hid hred
    have HIV := Lib.hid hiv
    have HI := Lib.hid hI
    have pz : (p == 0) = false := by simp; omega
    have pz2 : ¬ p = 0 := by omega
    clear p0 p1 hx nx hpb hb2 hd hred hiv hI
    obtain ⟨cc5_00, cc5_01, cc5_02, -, -, -⟩ := KA.out.all
    have ll5_0 := KA.out.lt
    obtain ⟨cc5_10, cc5_11, cc5_12, -, -, -⟩ := KV.out.all
    have ll5_1 := KV.out.lt
    obtain ⟨cc5_20, cc5_21, cc5_22, -, -, -⟩ := KT.out.all
    have ll5_2 := KT.out.lt
    go_wp2_with (fail)
    obtain ⟨mR, hmR⟩ : ∃ m, redM R R p xs = m := ⟨_, rfl⟩
    have HmR := Lib.hid hmR
    clear hmR
    refine (iRed R R p q1 qc1 xs _ OA.out.rd n1).mono ?_
    rintro e w6 ⟨vR, rfl, own, hb⟩
    rw [HmR.out] at own ⊢
    obtain ⟨qR, qcR, rfl, -, -⟩ := own.form
    have nR := own.small
    have OA := Lib.hid (OA.out.keep hb)
    have OB := Lib.hid (OB.out.keep hb)
    have KA := Lib.hid (KA.out.step hb)
    have OV := Lib.hid (OV.out.keep hb)
    have KV := Lib.hid (KV.out.step hb)
    have OT := Lib.hid (OT.out.keep hb)
    have KT := Lib.hid (KT.out.step hb)
    have OX := Lib.hid (OX.out.keep hb)
    have B := Lib.hid (stepB B.out hb)
    clear hb
    have OR := Lib.hid (own.le (Nat.zero_le _))
    clear own
    obtain ⟨cc6_00, cc6_01, cc6_02, -, -, -⟩ := KA.out.all
    have ll6_0 := KA.out.lt
    obtain ⟨cc6_10, cc6_11, cc6_12, -, -, -⟩ := KV.out.all
    have ll6_1 := KV.out.lt
    obtain ⟨cc6_20, cc6_21, cc6_22, -, -, -⟩ := KT.out.all
    have ll6_2 := KT.out.lt
    go_wp2_with (fail)
    obtain ⟨mY, hmY⟩ : ∃ m, mulM mR.r mR.c mR.zs mV.r mV.c mV.zs = m := ⟨_, rfl⟩
    have HmY := Lib.hid hmY
    clear hmY
    refine (iMul mR.r mR.c mV.r mV.c qR qV qcR qcV mR.zs mV.zs _ (OR.out.old _).rd (OV.out.old _).rd nR nV).mono ?_
    rintro e w7 ⟨vY, rfl, own, hb⟩
    rw [HmY.out] at own ⊢
    obtain ⟨qY, qcY, rfl, -, -⟩ := own.form
    have nY := own.small
    have OA := Lib.hid ((OA.out.old _).keep hb)
    have OB := Lib.hid ((OB.out.old _).keep hb)
    have KA := Lib.hid ((KA.out.old _).step hb)
    have OV := Lib.hid ((OV.out.old _).keep hb)
    have KV := Lib.hid ((KV.out.old _).step hb)
    have OT := Lib.hid ((OT.out.old _).keep hb)
    have KT := Lib.hid ((KT.out.old _).step hb)
    have OX := Lib.hid ((OX.out.old _).keep hb)
    have OR := Lib.hid ((OR.out.old _).keep hb)
    have KR : Hid (Blk3 w7 w6.heap.size 26 (.int .i64 (mR.r)) (.int .i64 (mR.c)) (.slice qR mR.zs.length qcR)) := (Blk3.at_ _ _ _ _ rfl).step hb
    have B := Lib.hid (stepB (B.out.alloc B.out.size _) hb)
    clear hb
    have OY := Lib.hid (own.le (Nat.zero_le _))
    clear own
    obtain ⟨cc7_00, cc7_01, cc7_02, -, -, -⟩ := KA.out.all
    have ll7_0 := KA.out.lt
    obtain ⟨cc7_10, cc7_11, cc7_12, -, -, -⟩ := KV.out.all
    have ll7_1 := KV.out.lt
    obtain ⟨cc7_20, cc7_21, cc7_22, -, -, -⟩ := KT.out.all
    have ll7_2 := KT.out.lt
    obtain ⟨cc7_30, cc7_31, cc7_32, -, -, -⟩ := KR.out.all
    have ll7_3 := KR.out.lt
    go_wp2_with (fail)
    obtain ⟨mZ, hmZ⟩ : ∃ m, redM mY.r mY.c p mY.zs = m := ⟨_, rfl⟩
    have HmZ := Lib.hid hmZ
    clear hmZ
    refine (iRed mY.r mY.c p qY qcY mY.zs _ (OY.out.old _).rd nY).mono ?_
    rintro e w8 ⟨vZ, rfl, own, hb⟩
    rw [HmZ.out] at own ⊢
    obtain ⟨qZ, qcZ, rfl, -, -⟩ := own.form
    have nZ := own.small
    have OA := Lib.hid ((OA.out.old _).keep hb)
    have OB := Lib.hid ((OB.out.old _).keep hb)
    have KA := Lib.hid ((KA.out.old _).step hb)
    have OV := Lib.hid ((OV.out.old _).keep hb)
    have KV := Lib.hid ((KV.out.old _).step hb)
    have OT := Lib.hid ((OT.out.old _).keep hb)
    have KT := Lib.hid ((KT.out.old _).step hb)
    have OX := Lib.hid ((OX.out.old _).keep hb)
    have OR := Lib.hid ((OR.out.old _).keep hb)
    have KR := Lib.hid ((KR.out.old _).step hb)
    have OY := Lib.hid ((OY.out.old _).keep hb)
    have KY : Hid (Blk3 w8 w7.heap.size 26 (.int .i64 (mY.r)) (.int .i64 (mY.c)) (.slice qY mY.zs.length qcY)) := (Blk3.at_ _ _ _ _ rfl).step hb
    have B := Lib.hid (stepB (B.out.alloc B.out.size _) hb)
    clear hb
    have OZ := Lib.hid (own.le (Nat.zero_le _))
    clear own
    obtain ⟨cc8_00, cc8_01, cc8_02, -, -, -⟩ := KA.out.all
    have ll8_0 := KA.out.lt
    obtain ⟨cc8_10, cc8_11, cc8_12, -, -, -⟩ := KV.out.all
    have ll8_1 := KV.out.lt
    obtain ⟨cc8_20, cc8_21, cc8_22, -, -, -⟩ := KT.out.all
    have ll8_2 := KT.out.lt
    obtain ⟨cc8_30, cc8_31, cc8_32, -, -, -⟩ := KR.out.all
    have ll8_3 := KR.out.lt
    obtain ⟨cc8_40, cc8_41, cc8_42, -, -, -⟩ := KY.out.all
    have ll8_4 := KY.out.lt
    rcases Bool.eq_false_or_eq_true mY.ok with hy | hy
    rotate_left
    · rw [hy]
      go_upto_region 15 with (fail)
      obtain ⟨wz8, hw⟩ : ∃ x, w8.alloc (.cells #[.int .i64 mZ.r, .int .i64 mZ.c, .slice qZ mZ.zs.length qcZ] 26) = x := ⟨_, rfl⟩
      have OA := Lib.hid (OA.out.old (.cells #[.int .i64 mZ.r, .int .i64 mZ.c, .slice qZ mZ.zs.length qcZ] 26))
      have OB := Lib.hid (OB.out.old (.cells #[.int .i64 mZ.r, .int .i64 mZ.c, .slice qZ mZ.zs.length qcZ] 26))
      have KA := Lib.hid (KA.out.old (.cells #[.int .i64 mZ.r, .int .i64 mZ.c, .slice qZ mZ.zs.length qcZ] 26))
      have OV := Lib.hid (OV.out.old (.cells #[.int .i64 mZ.r, .int .i64 mZ.c, .slice qZ mZ.zs.length qcZ] 26))
      have KV := Lib.hid (KV.out.old (.cells #[.int .i64 mZ.r, .int .i64 mZ.c, .slice qZ mZ.zs.length qcZ] 26))
      have OT := Lib.hid (OT.out.old (.cells #[.int .i64 mZ.r, .int .i64 mZ.c, .slice qZ mZ.zs.length qcZ] 26))
      have KT := Lib.hid (KT.out.old (.cells #[.int .i64 mZ.r, .int .i64 mZ.c, .slice qZ mZ.zs.length qcZ] 26))
      have OX := Lib.hid (OX.out.old (.cells #[.int .i64 mZ.r, .int .i64 mZ.c, .slice qZ mZ.zs.length qcZ] 26))
      have OR := Lib.hid (OR.out.old (.cells #[.int .i64 mZ.r, .int .i64 mZ.c, .slice qZ mZ.zs.length qcZ] 26))
      have KR := Lib.hid (KR.out.old (.cells #[.int .i64 mZ.r, .int .i64 mZ.c, .slice qZ mZ.zs.length qcZ] 26))
      have OY := Lib.hid (OY.out.old (.cells #[.int .i64 mZ.r, .int .i64 mZ.c, .slice qZ mZ.zs.length qcZ] 26))
      have KY := Lib.hid (KY.out.old (.cells #[.int .i64 mZ.r, .int .i64 mZ.c, .slice qZ mZ.zs.length qcZ] 26))
      have OZ := Lib.hid (OZ.out.old (.cells #[.int .i64 mZ.r, .int .i64 mZ.c, .slice qZ mZ.zs.length qcZ] 26))
      have KZ : Hid (Blk3 (w8.alloc (.cells #[.int .i64 mZ.r, .int .i64 mZ.c, .slice qZ mZ.zs.length qcZ] 26)) w8.heap.size 26 (.int .i64 mZ.r) (.int .i64 mZ.c) (.slice qZ mZ.zs.length qcZ)) := Blk3.at_ _ _ _ _ rfl
      have B := Lib.hid (B.out.alloc B.out.size (.cells #[.int .i64 mZ.r, .int .i64 mZ.c, .slice qZ mZ.zs.length qcZ] 26))
      rw [hw] at OA OB KA OV KV OT KT OX OR KR OY KY OZ B KZ ⊢
      clear hw
      refine wp_region_held_drew (S := fun w' => Below wz8.heap.size wz8 w') (by kernel_rfl) (Below.refl _ _).drew (fun hH => ?_)
      refine wpAnyH_take (i := 0) (v := ?_) (by simp only [List.getElem?_toArray, List.getElem?_cons_zero]; rfl) (by kernel_rfl) (by kernel_rfl) (by kernel_rfl) (by exact fun _ _ _ h => h) (Or.inl ⟨by rfl, ?_⟩) hH ?_
      rotate_left
      · (intro wS hS; clear hS; go_simp; try rfl)
      try simp only [Act.put, List.setIfInBounds_toArray, List.set_cons_zero, List.set_cons_succ]
      refine wpAnyH_take (i := 1) (v := ?_) (by simp only [List.getElem?_toArray, List.getElem?_cons_succ, List.getElem?_cons_zero]; rfl) (by kernel_rfl) (by kernel_rfl) (by kernel_rfl) (by exact fun _ _ _ h => h) (Or.inl ⟨by rfl, ?_⟩) hH ?_
      rotate_left
      · (intro wS hS; clear hS; go_simp; try rfl)
      try simp only [Act.put, List.setIfInBounds_toArray, List.set_cons_zero, List.set_cons_succ]
      refine wpAnyH_take (i := 2) (v := ?_) (by simp only [List.getElem?_toArray, List.getElem?_cons_succ, List.getElem?_cons_zero]; rfl) (by kernel_rfl) (by kernel_rfl) (by kernel_rfl) (by exact fun _ _ _ h => h) (Or.inl ⟨by rfl, ?_⟩) hH ?_
      rotate_left
      · (intro wS hS; clear hS; go_simp; try rfl)
      try simp only [Act.put, List.setIfInBounds_toArray, List.set_cons_zero, List.set_cons_succ]
      refine wpAnyH_take (i := 3) (v := ?_) (by simp only [List.getElem?_toArray, List.getElem?_cons_succ, List.getElem?_cons_zero]; rfl) (by kernel_rfl) (by kernel_rfl) (by kernel_rfl) (by exact fun _ _ _ h => h) (Or.inl ⟨by rfl, ?_⟩) hH ?_
      rotate_left
      · (intro wS hS; clear hS; go_simp; try rfl)
      try simp only [Act.put, List.setIfInBounds_toArray, List.set_cons_zero, List.set_cons_succ]
      refine wpAnyH_take (i := 4) (v := ?_) (by simp only [List.getElem?_toArray, List.getElem?_cons_succ, List.getElem?_cons_zero]; rfl) (by kernel_rfl) (by kernel_rfl) (by kernel_rfl) (by exact fun _ _ _ h => h) (Or.inl ⟨by rfl, ?_⟩) hH ?_
      rotate_left
      · (intro wS hS; clear hS; go_simp; try rfl)
      try simp only [Act.put, List.setIfInBounds_toArray, List.set_cons_zero, List.set_cons_succ]
      refine wpAnyH_take (i := 5) (v := undef) (by simp only [List.getElem?_toArray, List.getElem?_cons_succ, List.getElem?_cons_zero]; rfl) (by kernel_rfl) (by kernel_rfl) (by kernel_rfl) (by exact fun _ _ _ h => h) (Or.inr ⟨by rfl, rfl⟩) hH ?_
      try simp only [Act.put, List.setIfInBounds_toArray, List.set_cons_zero, List.set_cons_succ]
      refine wpAnyH_take (i := 6) (v := undef) (by simp only [List.getElem?_toArray, List.getElem?_cons_succ, List.getElem?_cons_zero]; rfl) (by kernel_rfl) (by kernel_rfl) (by kernel_rfl) (by exact fun _ _ _ h => h) (Or.inr ⟨by rfl, rfl⟩) hH ?_
      try simp only [Act.put, List.setIfInBounds_toArray, List.set_cons_zero, List.set_cons_succ]
      refine wpAnyH_take (i := 7) (v := undef) (by simp only [List.getElem?_toArray, List.getElem?_cons_succ, List.getElem?_cons_zero]; rfl) (by kernel_rfl) (by kernel_rfl) (by kernel_rfl) (by exact fun _ _ _ h => h) (Or.inr ⟨by rfl, rfl⟩) hH ?_
      try simp only [Act.put, List.setIfInBounds_toArray, List.set_cons_zero, List.set_cons_succ]
      refine wpAnyH_take (i := 8) (v := undef) (by simp only [List.getElem?_toArray, List.getElem?_cons_succ, List.getElem?_cons_zero]; rfl) (by kernel_rfl) (by kernel_rfl) (by kernel_rfl) (by exact fun _ _ _ h => h) (Or.inr ⟨by rfl, rfl⟩) hH ?_
      try simp only [Act.put, List.setIfInBounds_toArray, List.set_cons_zero, List.set_cons_succ]
      refine wpAnyH_take (i := 9) (v := undef) (by simp only [List.getElem?_toArray, List.getElem?_cons_succ, List.getElem?_cons_zero]; rfl) (by kernel_rfl) (by kernel_rfl) (by kernel_rfl) (by exact fun _ _ _ h => h) (Or.inr ⟨by rfl, rfl⟩) hH ?_
      try simp only [Act.put, List.setIfInBounds_toArray, List.set_cons_zero, List.set_cons_succ]
      refine wpAnyH_take (i := 10) (v := undef) (by simp only [List.getElem?_toArray, List.getElem?_cons_succ, List.getElem?_cons_zero]; rfl) (by kernel_rfl) (by kernel_rfl) (by kernel_rfl) (by exact fun _ _ _ h => h) (Or.inr ⟨by rfl, rfl⟩) hH ?_
      try simp only [Act.put, List.setIfInBounds_toArray, List.set_cons_zero, List.set_cons_succ]
      refine wpAnyH_take (i := 11) (v := ?_) (by simp only [List.getElem?_toArray, List.getElem?_cons_succ, List.getElem?_cons_zero]; rfl) (by kernel_rfl) (by kernel_rfl) (by kernel_rfl) (by exact fun _ _ _ h => h) (Or.inl ⟨by rfl, ?_⟩) hH ?_
      rotate_left
      · (intro wS hS; clear hS; go_simp; try rfl)
      try simp only [Act.put, List.setIfInBounds_toArray, List.set_cons_zero, List.set_cons_succ]
      refine wpAnyH_take (i := 12) (v := ?_) (by simp only [List.getElem?_toArray, List.getElem?_cons_succ, List.getElem?_cons_zero]; rfl) (by kernel_rfl) (by kernel_rfl) (by kernel_rfl) (by exact fun _ _ _ h => h) (Or.inl ⟨by rfl, ?_⟩) hH ?_
      rotate_left
      · (intro wS hS; clear hS; go_simp; try rfl)
      try simp only [Act.put, List.setIfInBounds_toArray, List.set_cons_zero, List.set_cons_succ]
      refine wpAnyH_done (by kernel_rfl) ?_ _
      obtain ⟨v9, hv9⟩ : ∃ x, wz8.drew = x := ⟨_, rfl⟩
      rw [hv9] at hH ⊢
      clear hv9
      have OA := Lib.hid (OA.out.keep hH)
      have OB := Lib.hid (OB.out.keep hH)
      have KA := Lib.hid (KA.out.step hH)
      have OX := Lib.hid (OX.out.keep hH)
      have B := Lib.hid (stepB B.out hH)
      clear hH
      rcases Bool.eq_false_or_eq_true bX with hX | hX
      rotate_left
      · rw [hX]
        obtain ⟨k0, k1, k2, -, -, -⟩ := KA.out.all
        have lv := B.out.size
        go_wp2_with (fail)
        go_loopw [2, 20, 21, 22] (fun _ v20 _ _ wr => v20 = .int .i64 0 ∧ wr = v9) (fun _ _ _ _ _ => 0)
        case atStart => exact ⟨rfl, rfl⟩
        case round =>
          obtain ⟨rfl, rfl⟩ := hrel
          obtain ⟨k0, k1, k2, -, -, -⟩ := KA.out.all
          by_cases hR0 : (0 : Int) < (R : Int)
          · go_wp2_with (fail)
            go_ret
            exact ⟨rfl, B.out⟩
          · have hR1 : decide ((0 : Int) < (R : Int)) = false := by simpa using hR0
            go_wp2_with (fail)
            go_ret
            exact ⟨rfl, B.out⟩
      · obtain ⟨lb, nbs, ex⟩ := sv_found HIV.out (by rw [HbX.out]; exact hX)
        rw [HsX.out] at ex
        have NBS := Lib.hid nbs
        have LB := Lib.hid lb
        have LXX : Hid (sX.length = R) := by show _ = _; rw [ex]; exact solL_length _ _ _ _
        have CX : Hid (∀ j, j < R → 0 ≤ sX.getD j 0 ∧ sX.getD j 0 < p) := fun j hj => by rw [ex]; exact solL_can (by omega) hj
        have EN : Hid (∀ i, i < R → lwS p R xs sX bs i R = 0) := fun i hi => by rw [ex]; exact lwS_end (by omega) HI.out hi
        have IY := Lib.hid (ixW R h12)
        have FB : Hid (∀ wr, Below v9.heap.size v9 wr → Below w.heap.size w wr) := fun wr h => B.out.trans (h.mono B.out.size)
        have RB := Lib.hid OB.out.rd
        have RX := Lib.hid OX.out.rd
        have RA := Lib.hid OA.out.rd
        have lk := KA.out.lt
        clear lb nbs ex
        rw [hX]
        obtain ⟨k0, k1, k2, -, -, -⟩ := KA.out.all
        go_wp2_with (fail)
        clear k0 k1 k2
        go_loopw [2, 20, 21, 22] (fun _ v20 _ _ wr => ∃ i : Nat, v20 = .int .i64 i ∧ i ≤ R ∧ Below v9.heap.size v9 wr) (fun _ v20 _ _ _ => R - (intOf v20).toNat)
        case atStart => exact ⟨0, rfl, by omega, Below.refl _ _⟩
        case round =>
          obtain ⟨i, rfl, hi, hbw⟩ := hrel
          have BW := Lib.hid hbw
          clear hbw
          obtain ⟨k0, k1, k2, -, -, -⟩ := (KA.out.keep BW.out lk).all
          by_cases hlt : i < R
          · obtain ⟨b1, o1, rfl, hc1⟩ := (RB.out.below BW.out) i (by rw [LB.out]; exact hlt)
            have il1 : (i : Int) < (bs.length : Int) := by have := LB.out; omega
            have ny := nums_at NBS.out (j := i) (by rw [LB.out]; exact hlt)
            obtain ⟨y, hy⟩ : ∃ y, bs.getD i 0 = y := ⟨_, rfl⟩
            have Y := Lib.hid hy
            rw [hy] at hc1 ny
            unfold NumP at ny
            have vy : IntKind.i64.wrap (-y) = -y := IntWalk.i64_in _ (by omega)
            clear hy
            go_wp2_with (fail)
            clear k0 k1 k2 hc1
            go_loopw [21, 22] (fun v21 v22 wr => ∃ j : Nat, v21 = .int .i64 (lwS p R xs sX bs i j) ∧ v22 = .int .i64 j ∧ j ≤ R ∧ Below v9.heap.size v9 wr) (fun _ v22 _ => R - (intOf v22).toNat)
            case atStart => exact ⟨0, by rw [lwS_zero, Y.out, Int.neg_tmod], rfl, by omega, BW.out⟩
            case round =>
              clear BW
              obtain ⟨j, rfl, rfl, hj, hbw⟩ := hrel
              have BW := Lib.hid hbw
              clear hbw
              obtain ⟨k0, k1, k2, -, -, -⟩ := (KA.out.keep BW.out lk).all
              by_cases hjl : j < R
              · obtain ⟨P, hP, hPN, u1, u2⟩ := IY.out i j hlt hjl
                have Pa : (0 : Int) ≤ (P : Int) := by omega
                have Pb : (P : Int) < (xs.length : Int) := by have := HX.out; omega
                have jb : (j : Int) < (sX.length : Int) := by have := LXX.out; omega
                obtain ⟨b2, o2, rfl, hc2⟩ := (RA.out.below BW.out) P (by rw [HX.out]; exact hPN)
                obtain ⟨b3, o3, rfl, hc3⟩ := (RX.out.below BW.out) j (by rw [LXX.out]; exact hjl)
                have SF := Lib.hid (lwS_step p R xs sX bs i j)
                rw [hP] at SF
                have s2 := lwS_small (show 0 < p by omega) R xs sX bs i j
                have nu := nums_at NX.out (j := P) (by rw [HX.out]; exact hPN)
                have cx := CX.out j hjl
                obtain ⟨s, hs⟩ : ∃ s, lwS p R xs sX bs i j = s := ⟨_, rfl⟩
                rw [hs] at SF s2 ⊢
                obtain ⟨u, hu⟩ : ∃ u, xs.getD P 0 = u := ⟨_, rfl⟩
                rw [hu] at SF nu hc2
                obtain ⟨x, hx⟩ : ∃ x, sX.getD j 0 = x := ⟨_, rfl⟩
                rw [hx] at SF cx hc3
                have st := tmod_smallP (show 0 < p by omega) u
                obtain ⟨t, ht⟩ : ∃ t, Int.tmod u p = t := ⟨_, rfl⟩
                rw [ht] at SF st
                have mb := mul_small (show 0 < p by omega) p3 st cx
                obtain ⟨o, ho⟩ : ∃ o, t * x = o := ⟨_, rfl⟩
                have v2 : IntKind.i64.wrap (t * x) = o := by rw [← ho]; exact IntWalk.i64_in _ (by omega)
                rw [ho] at SF mb
                obtain ⟨f, hf⟩ : ∃ f, s + o = f := ⟨_, rfl⟩
                have v3 : IntKind.i64.wrap (s + o) = f := by rw [← hf]; exact IntWalk.i64_in _ (by omega)
                rw [hf] at SF
                obtain ⟨g, hg⟩ : ∃ g, Int.tmod f p = g := ⟨_, rfl⟩
                rw [hg] at SF
                unfold NumP at nu
                clear hs hu hx ho hf hP cx st s2
                go_wp2_with (fail)
                go_quiet (fail)
                have BW := Lib.hid (below_drewN BW.out nq)
                go_wp2_with (fail)
                go_roundw
                case rel => exact ⟨j + 1, by rw [SF.out], by go_num, by omega, BW.out⟩
                case measure => simp [intOf]; omega
              · obtain rfl : R = j := by omega
                have z0 := EN.out i hlt
                rw [z0]
                clear z0
                go_wp2_with (fail)
                go_roundw
                case rel => exact ⟨i + 1, by go_num, by omega, BW.out⟩
                case measure => simp [intOf]; omega
          · have hi2 : decide (i < R) = false := by simpa using hlt
            go_wp2_with (fail)
            go_ret
            exact ⟨rfl, FB.out _ BW.out⟩
    rw [hy]
    have EY := HmY.out
    rw [← HmR.out, HRED.out, ← HmV.out, HIV.out] at EY
    have EZ0 : mZ = idM R := by rw [← HmZ.out]; exact ivx_prod HPB.out h12 HI.out EY hy
    obtain ⟨mI, hmI⟩ : ∃ m, idM R = m := ⟨_, rfl⟩
    have HmI := Lib.hid hmI
    clear hmI
    rw [HmI.out] at EZ0
    have EZ := Lib.hid EZ0
    clear EY EZ0
    go_upto_region 15 with (fail)
    obtain ⟨wz8, hw⟩ : ∃ x, w8.alloc (.cells #[.int .i64 mZ.r, .int .i64 mZ.c, .slice qZ mZ.zs.length qcZ] 26) = x := ⟨_, rfl⟩
    have OA := Lib.hid (OA.out.old (.cells #[.int .i64 mZ.r, .int .i64 mZ.c, .slice qZ mZ.zs.length qcZ] 26))
    have OB := Lib.hid (OB.out.old (.cells #[.int .i64 mZ.r, .int .i64 mZ.c, .slice qZ mZ.zs.length qcZ] 26))
    have KA := Lib.hid (KA.out.old (.cells #[.int .i64 mZ.r, .int .i64 mZ.c, .slice qZ mZ.zs.length qcZ] 26))
    have OV := Lib.hid (OV.out.old (.cells #[.int .i64 mZ.r, .int .i64 mZ.c, .slice qZ mZ.zs.length qcZ] 26))
    have KV := Lib.hid (KV.out.old (.cells #[.int .i64 mZ.r, .int .i64 mZ.c, .slice qZ mZ.zs.length qcZ] 26))
    have OT := Lib.hid (OT.out.old (.cells #[.int .i64 mZ.r, .int .i64 mZ.c, .slice qZ mZ.zs.length qcZ] 26))
    have KT := Lib.hid (KT.out.old (.cells #[.int .i64 mZ.r, .int .i64 mZ.c, .slice qZ mZ.zs.length qcZ] 26))
    have OX := Lib.hid (OX.out.old (.cells #[.int .i64 mZ.r, .int .i64 mZ.c, .slice qZ mZ.zs.length qcZ] 26))
    have OR := Lib.hid (OR.out.old (.cells #[.int .i64 mZ.r, .int .i64 mZ.c, .slice qZ mZ.zs.length qcZ] 26))
    have KR := Lib.hid (KR.out.old (.cells #[.int .i64 mZ.r, .int .i64 mZ.c, .slice qZ mZ.zs.length qcZ] 26))
    have OY := Lib.hid (OY.out.old (.cells #[.int .i64 mZ.r, .int .i64 mZ.c, .slice qZ mZ.zs.length qcZ] 26))
    have KY := Lib.hid (KY.out.old (.cells #[.int .i64 mZ.r, .int .i64 mZ.c, .slice qZ mZ.zs.length qcZ] 26))
    have OZ := Lib.hid (OZ.out.old (.cells #[.int .i64 mZ.r, .int .i64 mZ.c, .slice qZ mZ.zs.length qcZ] 26))
    have KZ : Hid (Blk3 (w8.alloc (.cells #[.int .i64 mZ.r, .int .i64 mZ.c, .slice qZ mZ.zs.length qcZ] 26)) w8.heap.size 26 (.int .i64 mZ.r) (.int .i64 mZ.c) (.slice qZ mZ.zs.length qcZ)) := Blk3.at_ _ _ _ _ rfl
    have B := Lib.hid (B.out.alloc B.out.size (.cells #[.int .i64 mZ.r, .int .i64 mZ.c, .slice qZ mZ.zs.length qcZ] 26))
    rw [hw] at OA OB KA OV KV OT KT OX OR KR OY KY OZ B KZ ⊢
    clear hw
    refine wp_region_held_drew (S := fun w' => Below wz8.heap.size wz8 w') (by kernel_rfl) (Below.refl _ _).drew (fun hH => ?_)
    refine wpAnyH_take (i := 0) (v := ?_) (by simp only [List.getElem?_toArray, List.getElem?_cons_zero]; rfl) (by kernel_rfl) (by kernel_rfl) (by kernel_rfl) (by exact fun _ _ _ h => h) (Or.inl ⟨by rfl, ?_⟩) hH ?_
    rotate_left
    · (intro wS hS; clear hS; go_simp; try rfl)
    try simp only [Act.put, List.setIfInBounds_toArray, List.set_cons_zero, List.set_cons_succ]
    refine wpAnyH_take (i := 1) (v := ?_) (by simp only [List.getElem?_toArray, List.getElem?_cons_succ, List.getElem?_cons_zero]; rfl) (by kernel_rfl) (by kernel_rfl) (by kernel_rfl) (by exact fun _ _ _ h => h) (Or.inl ⟨by rfl, ?_⟩) hH ?_
    rotate_left
    · (intro wS hS; clear hS; go_simp; try rfl)
    try simp only [Act.put, List.setIfInBounds_toArray, List.set_cons_zero, List.set_cons_succ]
    refine wpAnyH_take (i := 2) (v := ?_) (by simp only [List.getElem?_toArray, List.getElem?_cons_succ, List.getElem?_cons_zero]; rfl) (by kernel_rfl) (by kernel_rfl) (by kernel_rfl) (by exact fun _ _ _ h => h) (Or.inl ⟨by rfl, ?_⟩) hH ?_
    rotate_left
    · (intro wS hS; clear hS; go_simp; try rfl)
    try simp only [Act.put, List.setIfInBounds_toArray, List.set_cons_zero, List.set_cons_succ]
    refine wpAnyH_take (i := 3) (v := ?_) (by simp only [List.getElem?_toArray, List.getElem?_cons_succ, List.getElem?_cons_zero]; rfl) (by kernel_rfl) (by kernel_rfl) (by kernel_rfl) (by exact fun _ _ _ h => h) (Or.inl ⟨by rfl, ?_⟩) hH ?_
    rotate_left
    · (intro wS hS; clear hS; go_simp; try rfl)
    try simp only [Act.put, List.setIfInBounds_toArray, List.set_cons_zero, List.set_cons_succ]
    refine wpAnyH_take (i := 4) (v := ?_) (by simp only [List.getElem?_toArray, List.getElem?_cons_succ, List.getElem?_cons_zero]; rfl) (by kernel_rfl) (by kernel_rfl) (by kernel_rfl) (by exact fun _ _ _ h => h) (Or.inl ⟨by rfl, ?_⟩) hH ?_
    rotate_left
    · (intro wS hS; clear hS; go_simp; try rfl)
    try simp only [Act.put, List.setIfInBounds_toArray, List.set_cons_zero, List.set_cons_succ]
    refine wpAnyH_take (i := 5) (v := ?_) (by simp only [List.getElem?_toArray, List.getElem?_cons_succ, List.getElem?_cons_zero]; rfl) (by kernel_rfl) (by kernel_rfl) (by kernel_rfl) (by exact fun _ _ _ h => h) (Or.inl ⟨by rfl, ?_⟩) hH ?_
    rotate_left
    · (intro wS hS; (try dsimp only at hS); obtain ⟨k1, k2, k3, k4, k5, k6⟩ := sixF KA.out KZ.out hS; go_simp; try rfl)
    try simp only [Act.put, List.setIfInBounds_toArray, List.set_cons_zero, List.set_cons_succ]
    refine wpAnyH_take (i := 6) (v := ?_) (by simp only [List.getElem?_toArray, List.getElem?_cons_succ, List.getElem?_cons_zero]; rfl) (by kernel_rfl) (by kernel_rfl) (by kernel_rfl) (by exact fun _ _ _ h => h) (Or.inl ⟨by rfl, ?_⟩) hH ?_
    rotate_left
    · (intro wS hS; clear hS; go_simp; try rfl)
    try simp only [Act.put, List.setIfInBounds_toArray, List.set_cons_zero, List.set_cons_succ]
    refine wpAnyH_take (i := 7) (v := ?_) (by simp only [List.getElem?_toArray, List.getElem?_cons_succ, List.getElem?_cons_zero]; rfl) (by kernel_rfl) (by kernel_rfl) (by kernel_rfl) (by exact fun _ _ _ h => h) (Or.inl ⟨by rfl, ?_⟩) hH ?_
    rotate_left
    · (intro wS hS; (try dsimp only at hS); obtain ⟨k1, k2, k3, k4, k5, k6⟩ := sixF KA.out KZ.out hS; go_simp; try rfl)
    try simp only [Act.put, List.setIfInBounds_toArray, List.set_cons_zero, List.set_cons_succ]
    refine wpAnyH_ready (rs := [8]) (by kernel_rfl) (by simp) ?_
    refine AllReadyH.cons (by simp only [List.getElem?_toArray, List.getElem?_cons_succ, List.getElem?_cons_zero]; rfl) (fun K hK => ?_) AllReadyH.nil
    go_simp
    (with_reducible refine (lUnitX R _).mono ?_)
    rintro e v8 ⟨qU, qcU, rfl, own, hb8⟩
    rw [HmI.out] at own ⊢
    have OU := Lib.hid (own.le (Nat.zero_le _))
    have nU := own.small
    clear own
    try dsimp only
    refine hK.out _ _ ?_ (fun hH2 => ?_)
    · exact hH.trans (hb8.mono hH.size)
    clear hK K hH
    have hH := hH2
    clear hH2
    try simp only [Act.put, List.setIfInBounds_toArray, List.set_cons_zero, List.set_cons_succ]
    refine wpAnyH_ready (rs := [9]) (by kernel_rfl) (by simp) ?_
    refine AllReadyH.cons (by simp only [List.getElem?_toArray, List.getElem?_cons_succ, List.getElem?_cons_zero]; rfl) (fun K hK => ?_) AllReadyH.nil
    go_simp
    (with_reducible refine (iSameE mZ mI qZ qU qcZ qcU _ EZ.out (OZ.out.keep hH).rd OU.out.rd nZ nU).mono ?_)
    rintro e v9 ⟨rfl, hb9⟩
    try dsimp only
    refine hK.out _ _ ?_ (fun hH2 => ?_)
    · exact hH.trans (hb9.mono hH.size)
    clear hK K hH
    have hH := hH2
    clear hH2
    try simp only [Act.put, List.setIfInBounds_toArray, List.set_cons_zero, List.set_cons_succ]
    refine wpAnyH_take (i := 10) (v := ?_) (by simp only [List.getElem?_toArray, List.getElem?_cons_succ, List.getElem?_cons_zero]; rfl) (by kernel_rfl) (by kernel_rfl) (by kernel_rfl) (by exact fun _ _ _ h => h) (Or.inl ⟨by rfl, ?_⟩) hH ?_
    rotate_left
    · (intro wS hS; clear hS; go_simp; try rfl)
    try simp only [Act.put, List.setIfInBounds_toArray, List.set_cons_zero, List.set_cons_succ]
    refine wpAnyH_take (i := 11) (v := ?_) (by simp only [List.getElem?_toArray, List.getElem?_cons_succ, List.getElem?_cons_zero]; rfl) (by kernel_rfl) (by kernel_rfl) (by kernel_rfl) (by exact fun _ _ _ h => h) (Or.inl ⟨by rfl, ?_⟩) hH ?_
    rotate_left
    · (intro wS hS; clear hS; go_simp; try rfl)
    try simp only [Act.put, List.setIfInBounds_toArray, List.set_cons_zero, List.set_cons_succ]
    refine wpAnyH_take (i := 12) (v := ?_) (by simp only [List.getElem?_toArray, List.getElem?_cons_succ, List.getElem?_cons_zero]; rfl) (by kernel_rfl) (by kernel_rfl) (by kernel_rfl) (by exact fun _ _ _ h => h) (Or.inl ⟨by rfl, ?_⟩) hH ?_
    rotate_left
    · (intro wS hS; clear hS; go_simp; try rfl)
    try simp only [Act.put, List.setIfInBounds_toArray, List.set_cons_zero, List.set_cons_succ]
    refine wpAnyH_done (by kernel_rfl) ?_ _
    have OA := Lib.hid (OA.out.keep hH)
    have OB := Lib.hid (OB.out.keep hH)
    have KA := Lib.hid (KA.out.step hH)
    have OX := Lib.hid (OX.out.keep hH)
    have B := Lib.hid (stepB B.out hH)
    clear hH
    rcases Bool.eq_false_or_eq_true bX with hX | hX
    rotate_left
    · rw [hX]
      obtain ⟨k0, k1, k2, -, -, -⟩ := KA.out.all
      have lv := B.out.size
      go_wp2_with (fail)
      go_loopw [2, 20, 21, 22] (fun _ v20 _ _ wr => v20 = .int .i64 0 ∧ wr = v9) (fun _ _ _ _ _ => 0)
      case atStart => exact ⟨rfl, rfl⟩
      case round =>
        obtain ⟨rfl, rfl⟩ := hrel
        obtain ⟨k0, k1, k2, -, -, -⟩ := KA.out.all
        by_cases hR0 : (0 : Int) < (R : Int)
        · go_wp2_with (fail)
          go_ret
          exact ⟨rfl, B.out⟩
        · have hR1 : decide ((0 : Int) < (R : Int)) = false := by simpa using hR0
          go_wp2_with (fail)
          go_ret
          exact ⟨rfl, B.out⟩
    · obtain ⟨lb, nbs, ex⟩ := sv_found HIV.out (by rw [HbX.out]; exact hX)
      rw [HsX.out] at ex
      have NBS := Lib.hid nbs
      have LB := Lib.hid lb
      have LXX : Hid (sX.length = R) := by show _ = _; rw [ex]; exact solL_length _ _ _ _
      have CX : Hid (∀ j, j < R → 0 ≤ sX.getD j 0 ∧ sX.getD j 0 < p) := fun j hj => by rw [ex]; exact solL_can (by omega) hj
      have EN : Hid (∀ i, i < R → lwS p R xs sX bs i R = 0) := fun i hi => by rw [ex]; exact lwS_end (by omega) HI.out hi
      have IY := Lib.hid (ixW R h12)
      have FB : Hid (∀ wr, Below v9.heap.size v9 wr → Below w.heap.size w wr) := fun wr h => B.out.trans (h.mono B.out.size)
      have RB := Lib.hid OB.out.rd
      have RX := Lib.hid OX.out.rd
      have RA := Lib.hid OA.out.rd
      have lk := KA.out.lt
      clear lb nbs ex
      rw [hX]
      obtain ⟨k0, k1, k2, -, -, -⟩ := KA.out.all
      go_wp2_with (fail)
      clear k0 k1 k2
      go_loopw [2, 20, 21, 22] (fun _ v20 _ _ wr => ∃ i : Nat, v20 = .int .i64 i ∧ i ≤ R ∧ Below v9.heap.size v9 wr) (fun _ v20 _ _ _ => R - (intOf v20).toNat)
      case atStart => exact ⟨0, rfl, by omega, Below.refl _ _⟩
      case round =>
        obtain ⟨i, rfl, hi, hbw⟩ := hrel
        have BW := Lib.hid hbw
        clear hbw
        obtain ⟨k0, k1, k2, -, -, -⟩ := (KA.out.keep BW.out lk).all
        by_cases hlt : i < R
        · obtain ⟨b1, o1, rfl, hc1⟩ := (RB.out.below BW.out) i (by rw [LB.out]; exact hlt)
          have il1 : (i : Int) < (bs.length : Int) := by have := LB.out; omega
          have ny := nums_at NBS.out (j := i) (by rw [LB.out]; exact hlt)
          obtain ⟨y, hy⟩ : ∃ y, bs.getD i 0 = y := ⟨_, rfl⟩
          have Y := Lib.hid hy
          rw [hy] at hc1 ny
          unfold NumP at ny
          have vy : IntKind.i64.wrap (-y) = -y := IntWalk.i64_in _ (by omega)
          clear hy
          go_wp2_with (fail)
          clear k0 k1 k2 hc1
          go_loopw [21, 22] (fun v21 v22 wr => ∃ j : Nat, v21 = .int .i64 (lwS p R xs sX bs i j) ∧ v22 = .int .i64 j ∧ j ≤ R ∧ Below v9.heap.size v9 wr) (fun _ v22 _ => R - (intOf v22).toNat)
          case atStart => exact ⟨0, by rw [lwS_zero, Y.out, Int.neg_tmod], rfl, by omega, BW.out⟩
          case round =>
            clear BW
            obtain ⟨j, rfl, rfl, hj, hbw⟩ := hrel
            have BW := Lib.hid hbw
            clear hbw
            obtain ⟨k0, k1, k2, -, -, -⟩ := (KA.out.keep BW.out lk).all
            by_cases hjl : j < R
            · obtain ⟨P, hP, hPN, u1, u2⟩ := IY.out i j hlt hjl
              have Pa : (0 : Int) ≤ (P : Int) := by omega
              have Pb : (P : Int) < (xs.length : Int) := by have := HX.out; omega
              have jb : (j : Int) < (sX.length : Int) := by have := LXX.out; omega
              obtain ⟨b2, o2, rfl, hc2⟩ := (RA.out.below BW.out) P (by rw [HX.out]; exact hPN)
              obtain ⟨b3, o3, rfl, hc3⟩ := (RX.out.below BW.out) j (by rw [LXX.out]; exact hjl)
              have SF := Lib.hid (lwS_step p R xs sX bs i j)
              rw [hP] at SF
              have s2 := lwS_small (show 0 < p by omega) R xs sX bs i j
              have nu := nums_at NX.out (j := P) (by rw [HX.out]; exact hPN)
              have cx := CX.out j hjl
              obtain ⟨s, hs⟩ : ∃ s, lwS p R xs sX bs i j = s := ⟨_, rfl⟩
              rw [hs] at SF s2 ⊢
              obtain ⟨u, hu⟩ : ∃ u, xs.getD P 0 = u := ⟨_, rfl⟩
              rw [hu] at SF nu hc2
              obtain ⟨x, hx⟩ : ∃ x, sX.getD j 0 = x := ⟨_, rfl⟩
              rw [hx] at SF cx hc3
              have st := tmod_smallP (show 0 < p by omega) u
              obtain ⟨t, ht⟩ : ∃ t, Int.tmod u p = t := ⟨_, rfl⟩
              rw [ht] at SF st
              have mb := mul_small (show 0 < p by omega) p3 st cx
              obtain ⟨o, ho⟩ : ∃ o, t * x = o := ⟨_, rfl⟩
              have v2 : IntKind.i64.wrap (t * x) = o := by rw [← ho]; exact IntWalk.i64_in _ (by omega)
              rw [ho] at SF mb
              obtain ⟨f, hf⟩ : ∃ f, s + o = f := ⟨_, rfl⟩
              have v3 : IntKind.i64.wrap (s + o) = f := by rw [← hf]; exact IntWalk.i64_in _ (by omega)
              rw [hf] at SF
              obtain ⟨g, hg⟩ : ∃ g, Int.tmod f p = g := ⟨_, rfl⟩
              rw [hg] at SF
              unfold NumP at nu
              clear hs hu hx ho hf hP cx st s2
              go_wp2_with (fail)
              go_quiet (fail)
              have BW := Lib.hid (below_drewN BW.out nq)
              go_wp2_with (fail)
              go_roundw
              case rel => exact ⟨j + 1, by rw [SF.out], by go_num, by omega, BW.out⟩
              case measure => simp [intOf]; omega
            · obtain rfl : R = j := by omega
              have z0 := EN.out i hlt
              rw [z0]
              clear z0
              go_wp2_with (fail)
              go_roundw
              case rel => exact ⟨i + 1, by go_num, by omega, BW.out⟩
              case measure => simp [intOf]; omega
        · have hi2 : decide (i < R) = false := by simpa using hlt
          go_wp2_with (fail)
          go_ret
          exact ⟨rfl, FB.out _ BW.out⟩
  · have hbig' : 1048576 < len0 := by omega
    clear hbig
    go_enter Try.func3, Try.ntmps3
    go_wp2_with (fail)
    refine (big_yes w a0 len0 cap0 hbig').mono ?_
    rintro e w1 ⟨rfl, rfl⟩
    go_wp2_with (fail)
    go_ret
    exact ⟨rfl, Below.refl _ _⟩

/-! ### The row's step -/
set_option maxRecDepth 100000 in
theorem lifted (os : Os) (started : os.Started) (H : Type) (enc : TypeId × Value → H) :
    ReturnsInHanded {} Try.checked os 3 .any (Rows.fnInverseModSpec.pre6 enc Try.prog Try.f3 Rows.fnInverseModRow.domain false) (Rows.fnInverseModSpec.post enc Try.prog Try.f3 false true false false) := by
  refine returnsInHanded_of_change (C := Try.checked) own started (by kernel_rfl) Try.func3
    (ChangeSpec.witness6 (enc := enc) (C := Try.checked) false ⟨#[], #[.slice none 0 0], []⟩ 8 (by kernel_rfl) (by kernel_rfl) (by kernel_rfl) (by kernel_rfl)) ?_
  intro W base args ds gs before hval0 hW hcnd _
  have hval : ∀ (j : Nat) t v, Try.f3.params[j]? = some t → args[j]? = some v → Value.okWide Try.prog W .any base t v := hval0
  have hW' := hW
  obtain ⟨p, q, hA0, hV, rfl, hfz, hnd⟩ := hW
  have hA : DataW.TrodAll enc Try.prog W 0 (fun _ => true) true Try.f3.params.toList args.toList ds p := hA0
  rw [Try.params3] at hA hval
  obtain ⟨v0, vs0, d0, ds0, p0, q0, hargs, rfl, rfl, h0, r0⟩ := trodAll_cons hA
  obtain ⟨rfl, rfl, rfl⟩ := trodAll_nil r0
  obtain rfl : args = #[v0] := by cases args; simp_all
  obtain ⟨rfl, rfl⟩ := trodVars_none hV
  have k0 := h0
  have lt0 : ∀ x ∈ p0, x.block < W.heap.size := by obtain ⟨m, hm⟩ := k0; exact DataW.trod_lt m _ _ _ hm
  obtain ⟨a0, len0, cap0, rfl⟩ := okWide_slice Try.underlying22 (hval 0 22 v0 rfl rfl)
  obtain ⟨fuel0, hf0⟩ := h0
  obtain ⟨z0, w0⟩ : ∃ zs, IsRow .u8 W a0 len0 cap0 zs := isRow_of Try.underlying22 Try.underlying5 (by kernel_rfl) (by simpa [Value.cells] using hf0)
  clear hA0 hval0
  refine (walk a0 len0 cap0 z0 W w0).mono fun e W' ⟨he, bel⟩ => ?_
  subst he
  exact ⟨_, rfl, _, _, _, [], _, [], hW', trodAll_mk1 (shut_bool Try.underlying4 _), (trodAll_cons_mk (Below.trod laidOut (by kernel_rfl) (of_decide_eq_true (by kernel_rfl)) k0 bel lt0) trodAll_mk0), rfl, bel.frame _, fun h => by cases h⟩

theorem over : Rows.fnInverseModRow.holds Try.pinned (OpenSpec.ofChange Rows.fnInverseModSpec) :=
  OpenClaim.holds_of_wide 3 Try.f3 rfl rfl rfl rfl rfl rfl rfl ⟨rfl, rfl, rfl, rfl, rfl⟩ rfl rfl rfl rfl rfl (by kernel_rfl) Try.func3 (by kernel_rfl)
    (of_decide_eq_true (by kernel_rfl)) (by unfold Func.isWrapper; first | (rw [if_pos (by decide +kernel)]; kernel_rfl) | (rw [if_neg (by decide +kernel)]; exact ⟨rfl, rfl⟩))
    (fun os started H enc _ => lifted os started H enc)

/-- ████ THE STATEMENT ████ -/
theorem proved : Rows.FnInverseModSaid := over
#print axioms proved
end Go.Proofs.Ytcapddcmnjeloaa.fnInverseMod
