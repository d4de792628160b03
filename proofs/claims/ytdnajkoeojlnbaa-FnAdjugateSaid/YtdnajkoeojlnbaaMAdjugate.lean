/-
  Proved: for every code, the law FnAdjugate returns true: a matrix times its adjugate has the determinant in its diagonal and nothing else, and unimodular matrices have inverses, wherever all is found.
  Conditions: none beyond the row's own (the argument reads as data).
-/
import Derived.Test.YtdnajkoeojlnbaaRows
import Derived.ChangeOld
import Derived.Below
import Derived.Deep.RegionHeld3
import Derived.Deep.DeepCutAuto
import Derived.WalkKit
import Derived.ProofKit
import Derived.OpenShut
import Derived.ShutString
import Derived.Carry
import Derived.Lib.SmallJoins
import Derived.Test.YtdnajkoeojlnbaaPk4
import Derived.Test.YtdnajkoeojlnbaaPk6
import Derived.Test.YtdnajkoeojlnbaaPk7
import Derived.Test.YtdnajkoeojlnbaaPk8
import Derived.Test.YtdnajkoeojlnbaaPk9
import Derived.Test.YtdnajkoeojlnbaaPk11
import Derived.Test.YtdnajkoeojlnbaaPk12
import Derived.Test.YtdnajkoeojlnbaaPk13
import Derived.Test.YtdnajkoeojlnbaaPk14

namespace Go.Proofs.Ytdnajkoeojlnbaa.fnAdjugate
open Go.ChangeShapes Go.WideShapes Go.ChangeAt Go.RowKit
open Go.ChangeMaps (open_string shut_string)
set_option linter.unusedVariables false

theorem own : ownKnob Try.prog.godebug = none := by kernel_rfl
theorem laidOut : laidOutB Try.prog = true := by kernel_rfl

/-- What the walk is told of a slice of integers that came in: it is nil; or it leads to a row of 'cap' cells, the numbers 'zs' (the first 'len' are its elements), each fitting its kind. -/
def IsRow (k : IntKind) (w : World) (a : Option Addr) (len cap : Nat) (zs : List Int) : Prop :=
  (a = none ∧ len = 0 ∧ cap = 0 ∧ zs = []) ∨
  ∃ x, a = some x ∧ len ≤ cap ∧ cap ≤ maxLen ∧ zs.length = cap ∧ (∀ i, i < zs.length → w.cell? (x.add i) = some (.int k (zs.getD i 0))) ∧ ∀ n ∈ zs, (Lit.int k n).wf = true
theorem isRow_of {H : Type} {enc : TypeId × Value → H} {P : Program} {W : World} {base : Nat} {held : Bool} {t e : TypeId} {k : IntKind} {a : Option Addr} {len cap fuel : Nat} {x : DataW H × List MemPlace}
    (ht : P.underlying t = some (.slice e)) (he : P.underlying e = some (.int k)) (hc : P.cellsOf e = 1) (hf : DataW.trod enc P W base (fun _ => true) held fuel t [.slice a len cap] = some x) : ∃ zs, IsRow k W a len cap zs := by
  rcases open_ints ht he hc hf with ⟨hcs, _⟩ | ⟨x, l, c, zs, hcs, _, hl, hm, hz, _, hcell, hwz⟩
  · simp at hcs
    obtain ⟨rfl, rfl, rfl⟩ := hcs
    exact ⟨[], .inl ⟨rfl, rfl, rfl, rfl⟩⟩
  · simp at hcs
    obtain ⟨rfl, rfl, rfl⟩ := hcs
    exact ⟨zs, .inr ⟨_, rfl, hl, hm, by simpa using hz, hcell, hwz⟩⟩
theorem _root_.Go.Proofs.Ytdnajkoeojlnbaa.Own.old {B : Nat} {w : World} {v : Value} {zs : List Int} (h : Own B w v zs) (o : Obj) : Own B (w.alloc o) v zs := h.keep ((Below.refl _ _).alloc (Nat.le_refl _) o)
theorem _root_.Go.Proofs.Ytdnajkoeojlnbaa.Own.rd {B : Nat} {w : World} {a : Option Addr} {n cap : Nat} {zs : List Int} (h : Own B w (.slice a n cap) zs) : Rd w a zs := by
  obtain ⟨a', c', e, hr, -⟩ := h.form
  injection e with e1 e2 e3
  rw [e1]; exact hr
theorem sSameE (x y : MR) (a b : Option Addr) (m n : Nat) (w : World) (e : x = y) (h : Rd w a x.zs) (h' : Rd w b y.zs) (hn : x.zs.length ≤ 16777216) :
    Calls Try.prog 43 #[.agg #[.int .i64 x.r, .int .i64 x.c, .slice a x.zs.length m], .agg #[.int .i64 y.r, .int .i64 y.c, .slice b y.zs.length n]] w (Gives (.bool true) w) := by
  subst e
  have := sSame x.r x.c x.r x.c a b m n x.zs x.zs w h h' hn
  rw [sameM_self] at this
  exact this
theorem iSameE (x y : MR) (a b : Option Addr) (m n : Nat) (w : World) (e : x = y) (h : Rd w a x.zs) (h' : Rd w b y.zs) (hn : x.zs.length ≤ 16777216) (hn' : y.zs.length ≤ 16777216) :
    Calls Try.prog 37 #[.agg #[.int .i64 x.r, .int .i64 x.c, .slice a x.zs.length m], .agg #[.int .i64 y.r, .int .i64 y.c, .slice b y.zs.length n]] w (Gives (.bool true) w) := by
  subst e
  have := iSame x.r x.c x.r x.c a b m n x.zs x.zs w h h' hn hn'
  rw [sameM_self] at this
  exact this
theorem nineF {W w' : World} {a b c : Nat} {t t2 t3 : TypeId} {p q r p2 q2 r2 p3 q3 r3 : Value} (h0 : Blk3 W a t p q r) (h1 : Blk3 W b t2 p2 q2 r2) (h2 : Blk3 W c t3 p3 q3 r3) (hb : Below W.heap.size W w') :
    w'.cell? ⟨a, 0, none⟩ = some p ∧ w'.cell? ⟨a, 1, none⟩ = some q ∧ w'.cell? ⟨a, 2, none⟩ = some r ∧ w'.cell? ⟨b, 0, none⟩ = some p2 ∧ w'.cell? ⟨b, 1, none⟩ = some q2 ∧ w'.cell? ⟨b, 2, none⟩ = some r2 ∧ w'.cell? ⟨c, 0, none⟩ = some p3 ∧ w'.cell? ⟨c, 1, none⟩ = some q3 ∧ w'.cell? ⟨c, 2, none⟩ = some r3 := by
  obtain ⟨a1, a2, a3, -, -, -⟩ := (h0.step hb).all
  obtain ⟨b1, b2, b3, -, -, -⟩ := (h1.step hb).all
  obtain ⟨c1, c2, c3, -, -, -⟩ := (h2.step hb).all
  exact ⟨a1, a2, a3, b1, b2, b3, c1, c2, c3⟩
theorem lAbs (d : Int) (w : World) (h : d = 1 ∨ d = -1) : Calls Try.prog 51 #[.int .i64 d] w (Gives (.int .i64 1) w) := by
  rcases h with rfl | rfl
  · go_enter Try.func51, Try.ntmps51
    go_wp2_with (fail)
    go_ret
    exact ⟨rfl, Below.refl _ _⟩
  · go_enter Try.func51, Try.ntmps51
    go_wp2_with (fail)
    go_ret
    exact ⟨rfl, Below.refl _ _⟩
theorem codeIn_of_row {w : World} {a : Option Addr} {len cap : Nat} {zs : List Int} (h : IsRow .u8 w a len cap zs) : CodeIn w a len := by
  rcases h with ⟨rfl, rfl, rfl, rfl⟩ | ⟨x, rfl, hl, hm, hz, hcell, hwf⟩
  · exact codeIn_none w
  · exact codeIn_some hl hm hz hcell hwf
set_option maxRecDepth 100000 in
set_option maxHeartbeats 16000000 in

theorem walk (a0 : Option Addr) (len0 cap0 : Nat) (z0 : List Int) (w : World) (w0 : IsRow .u8 w a0 len0 cap0 z0) :
    Calls Try.prog 13 #[.slice a0 len0 cap0] w fun e w' => e = .returned (.bool true) ∧ Below w.heap.size w w' := by
  have hc : CodeIn w a0 len0 := codeIn_of_row w0
  have hl := hc.1
  have HC := Lib.hid hc
  clear w0 hc
  unfold maxLen at hl
  by_cases hbig : len0 ≤ 1048576
  · go_enter Try.func13, Try.ntmps13
    go_wp2_with (fail)
    refine (big_no w a0 len0 cap0 hbig).mono ?_
    rintro e w1 ⟨rfl, rfl⟩
    go_wp2_with (fail)
    refine (drawInv w a0 len0 cap0 HC.out).mono ?_
    rintro e w1 ⟨r, c, q1, qc1, xs, rfl, o1, l1, hb⟩
    have B := Lib.hid hb
    have OA := Lib.hid (o1.le (Nat.zero_le _))
    have n1 : xs.length ≤ 16777216 := by omega
    clear hb o1
    go_wp2_with (fail)
    obtain ⟨mA, hmA⟩ : ∃ m, adjM r c xs = m := ⟨_, rfl⟩
    have HmA := Lib.hid hmA
    clear hmA
    refine (iAdj r c q1 qc1 xs _ (OA.out.old _).rd n1).mono ?_
    rintro e w2 ⟨vJ, rfl, own, hb⟩
    rw [HmA.out] at own ⊢
    obtain ⟨qJ, qcJ, rfl, -, -⟩ := own.form
    have nJ := own.small
    have OA := Lib.hid ((OA.out.old _).keep hb)
    have KA : Hid (Blk3 w2 w1.heap.size 27 (.int .i64 (r)) (.int .i64 (c)) (.slice q1 xs.length qc1)) := (Blk3.at_ _ _ _ _ rfl).step hb
    have B := Lib.hid (stepB (B.out.alloc B.out.size _) hb)
    clear hb
    have OJ := Lib.hid (own.le (Nat.zero_le _))
    clear own
    obtain ⟨cc1_00, cc1_01, cc1_02, -, -, -⟩ := KA.out.all
    have ll1_0 := KA.out.lt
    go_wp2_with (fail)
    refine (sAdj r c q1 qc1 xs _ (OA.out.old _).rd n1).mono ?_
    rintro e w3 ⟨vT, rfl, own, hb⟩
    rw [HmA.out] at own ⊢
    obtain ⟨qT, qcT, rfl, -, -⟩ := own.form
    have nT := own.small
    have OA := Lib.hid ((OA.out.old _).keep hb)
    have KA := Lib.hid ((KA.out.old _).step hb)
    have OJ := Lib.hid ((OJ.out.old _).keep hb)
    have KJ : Hid (Blk3 w3 w2.heap.size 27 (.int .i64 (mA.r)) (.int .i64 (mA.c)) (.slice qJ mA.zs.length qcJ)) := (Blk3.at_ _ _ _ _ rfl).step hb
    have B := Lib.hid (stepB (B.out.alloc B.out.size _) hb)
    clear hb
    have OT := Lib.hid (own.le (Nat.zero_le _))
    clear own
    obtain ⟨cc2_00, cc2_01, cc2_02, -, -, -⟩ := KA.out.all
    have ll2_0 := KA.out.lt
    obtain ⟨cc2_10, cc2_11, cc2_12, -, -, -⟩ := KJ.out.all
    have ll2_1 := KJ.out.lt
    go_wp2_with (fail)
    obtain ⟨d, hd⟩ : ∃ m, (detOf r c xs).1 = m := ⟨_, rfl⟩
    have Hd := Lib.hid hd
    clear hd
    obtain ⟨bd, hbd⟩ : ∃ m, (detOf r c xs).2 = m := ⟨_, rfl⟩
    have Hbd := Lib.hid hbd
    clear hbd
    refine (iDetOf r c q1 qc1 xs _ (OA.out.old _).rd n1).mono ?_
    rintro e w4 ⟨rfl, hb⟩
    have OA := Lib.hid ((OA.out.old _).keep hb)
    have KA := Lib.hid ((KA.out.old _).step hb)
    have OJ := Lib.hid ((OJ.out.old _).keep hb)
    have KJ := Lib.hid ((KJ.out.old _).step hb)
    have OT := Lib.hid ((OT.out.old _).keep hb)
    have KT : Hid (Blk3 w4 w3.heap.size 27 (.int .i64 (mA.r)) (.int .i64 (mA.c)) (.slice qT mA.zs.length qcT)) := (Blk3.at_ _ _ _ _ rfl).step hb
    have B := Lib.hid (stepB (B.out.alloc B.out.size _) hb)
    clear hb
    rw [Hd.out, Hbd.out]
    obtain ⟨cc3_00, cc3_01, cc3_02, -, -, -⟩ := KA.out.all
    have ll3_0 := KA.out.lt
    obtain ⟨cc3_10, cc3_11, cc3_12, -, -, -⟩ := KJ.out.all
    have ll3_1 := KJ.out.lt
    obtain ⟨cc3_20, cc3_21, cc3_22, -, -, -⟩ := KT.out.all
    have ll3_2 := KT.out.lt
    go_wp2_with (fail)
    obtain ⟨mP, hmP⟩ : ∃ m, mulM r c xs mA.r mA.c mA.zs = m := ⟨_, rfl⟩
    have HmP := Lib.hid hmP
    clear hmP
    refine (iMul r c mA.r mA.c q1 qJ qc1 qcJ xs mA.zs _ OA.out.rd OJ.out.rd n1 nJ).mono ?_
    rintro e w5 ⟨vP, rfl, own, hb⟩
    rw [HmP.out] at own ⊢
    obtain ⟨qP, qcP, rfl, -, -⟩ := own.form
    have nP := own.small
    have OA := Lib.hid (OA.out.keep hb)
    have KA := Lib.hid (KA.out.step hb)
    have OJ := Lib.hid (OJ.out.keep hb)
    have KJ := Lib.hid (KJ.out.step hb)
    have OT := Lib.hid (OT.out.keep hb)
    have KT := Lib.hid (KT.out.step hb)
    have B := Lib.hid (stepB B.out hb)
    clear hb
    have OP := Lib.hid (own.le (Nat.zero_le _))
    clear own
    obtain ⟨cc4_00, cc4_01, cc4_02, -, -, -⟩ := KA.out.all
    have ll4_0 := KA.out.lt
    obtain ⟨cc4_10, cc4_11, cc4_12, -, -, -⟩ := KJ.out.all
    have ll4_1 := KJ.out.lt
    obtain ⟨cc4_20, cc4_21, cc4_22, -, -, -⟩ := KT.out.all
    have ll4_2 := KT.out.lt
    rcases Bool.eq_false_or_eq_true mA.ok with hf1 | hf1
    rotate_left
    · rw [hf1]
      obtain ⟨cc5_00, cc5_01, cc5_02, -, -, -⟩ := KA.out.all
      have ll5_0 := KA.out.lt
      obtain ⟨cc5_10, cc5_11, cc5_12, -, -, -⟩ := KJ.out.all
      have ll5_1 := KJ.out.lt
      obtain ⟨cc5_20, cc5_21, cc5_22, -, -, -⟩ := KT.out.all
      have ll5_2 := KT.out.lt
      go_wp2_with (fail)
      obtain ⟨mV, hmV⟩ : ∃ m, invM r c xs = m := ⟨_, rfl⟩
      have HmV := Lib.hid hmV
      clear hmV
      refine (iInv r c q1 qc1 xs _ (OA.out.old _).rd n1).mono ?_
      rintro e w6 ⟨vV, rfl, own, hb⟩
      rw [HmV.out] at own ⊢
      obtain ⟨qV, qcV, rfl, -, -⟩ := own.form
      have nV := own.small
      have OA := Lib.hid ((OA.out.old _).keep hb)
      have KA := Lib.hid ((KA.out.old _).step hb)
      have OJ := Lib.hid ((OJ.out.old _).keep hb)
      have KJ := Lib.hid ((KJ.out.old _).step hb)
      have OT := Lib.hid ((OT.out.old _).keep hb)
      have KT := Lib.hid ((KT.out.old _).step hb)
      have OP := Lib.hid ((OP.out.old _).keep hb)
      have KP : Hid (Blk3 w6 w5.heap.size 27 (.int .i64 (mP.r)) (.int .i64 (mP.c)) (.slice qP mP.zs.length qcP)) := (Blk3.at_ _ _ _ _ rfl).step hb
      have B := Lib.hid (stepB (B.out.alloc B.out.size _) hb)
      clear hb
      have OV := Lib.hid (own.le (Nat.zero_le _))
      clear own
      obtain ⟨cc6_00, cc6_01, cc6_02, -, -, -⟩ := KA.out.all
      have ll6_0 := KA.out.lt
      obtain ⟨cc6_10, cc6_11, cc6_12, -, -, -⟩ := KJ.out.all
      have ll6_1 := KJ.out.lt
      obtain ⟨cc6_20, cc6_21, cc6_22, -, -, -⟩ := KT.out.all
      have ll6_2 := KT.out.lt
      obtain ⟨cc6_30, cc6_31, cc6_32, -, -, -⟩ := KP.out.all
      have ll6_3 := KP.out.lt
      rcases Bool.eq_false_or_eq_true mV.ok with hg | hg
      rotate_left
      · rw [hg]
        have zV := inv_no HmV.out hg
        have lV : mV.zs.length = 0 := by rw [zV]; rfl
        have LV := Lib.hid lV
        clear zV lV
        obtain ⟨cc7_00, cc7_01, cc7_02, -, -, -⟩ := KA.out.all
        have ll7_0 := KA.out.lt
        obtain ⟨cc7_10, cc7_11, cc7_12, -, -, -⟩ := KJ.out.all
        have ll7_1 := KJ.out.lt
        obtain ⟨cc7_20, cc7_21, cc7_22, -, -, -⟩ := KT.out.all
        have ll7_2 := KT.out.lt
        obtain ⟨cc7_30, cc7_31, cc7_32, -, -, -⟩ := KP.out.all
        have ll7_3 := KP.out.lt
        go_wp2_with (fail)
        go_ret
        exact ⟨by rw [LV.out]; rfl, (B.out.alloc B.out.size _)⟩
      rw [hg]
      obtain ⟨hd, e1, e2, hI⟩ := inv_law HmV.out hg Hd.out
      obtain ⟨mI, hmI⟩ : ∃ m, idM r = m := ⟨_, rfl⟩
      have HmI := Lib.hid hmI
      clear hmI
      rw [HmI.out] at e1 e2 hI
      have E1 := Lib.hid e1
      have E2 := Lib.hid e2
      have HD := Lib.hid hd
      have HI := Lib.hid hI
      clear e1 e2 hd hI
      obtain ⟨cc7_00, cc7_01, cc7_02, -, -, -⟩ := KA.out.all
      have ll7_0 := KA.out.lt
      obtain ⟨cc7_10, cc7_11, cc7_12, -, -, -⟩ := KJ.out.all
      have ll7_1 := KJ.out.lt
      obtain ⟨cc7_20, cc7_21, cc7_22, -, -, -⟩ := KT.out.all
      have ll7_2 := KT.out.lt
      obtain ⟨cc7_30, cc7_31, cc7_32, -, -, -⟩ := KP.out.all
      have ll7_3 := KP.out.lt
      go_wp2_with (fail)
      refine (iMul r c mV.r mV.c q1 qV qc1 qcV xs mV.zs _ (OA.out.old _).rd (OV.out.old _).rd n1 nV).mono ?_
      rintro e w7 ⟨vX, rfl, own, hb⟩
      rw [E1.out] at own ⊢
      obtain ⟨qX, qcX, rfl, -, -⟩ := own.form
      have nX := own.small
      have OA := Lib.hid ((OA.out.old _).keep hb)
      have KA := Lib.hid ((KA.out.old _).step hb)
      have OJ := Lib.hid ((OJ.out.old _).keep hb)
      have KJ := Lib.hid ((KJ.out.old _).step hb)
      have OT := Lib.hid ((OT.out.old _).keep hb)
      have KT := Lib.hid ((KT.out.old _).step hb)
      have OP := Lib.hid ((OP.out.old _).keep hb)
      have KP := Lib.hid ((KP.out.old _).step hb)
      have OV := Lib.hid ((OV.out.old _).keep hb)
      have KV : Hid (Blk3 w7 w6.heap.size 27 (.int .i64 (mV.r)) (.int .i64 (mV.c)) (.slice qV mV.zs.length qcV)) := (Blk3.at_ _ _ _ _ rfl).step hb
      have B := Lib.hid (stepB (B.out.alloc B.out.size _) hb)
      clear hb
      have OX := Lib.hid (own.le (Nat.zero_le _))
      clear own
      obtain ⟨cc8_00, cc8_01, cc8_02, -, -, -⟩ := KA.out.all
      have ll8_0 := KA.out.lt
      obtain ⟨cc8_10, cc8_11, cc8_12, -, -, -⟩ := KJ.out.all
      have ll8_1 := KJ.out.lt
      obtain ⟨cc8_20, cc8_21, cc8_22, -, -, -⟩ := KT.out.all
      have ll8_2 := KT.out.lt
      obtain ⟨cc8_30, cc8_31, cc8_32, -, -, -⟩ := KP.out.all
      have ll8_3 := KP.out.lt
      obtain ⟨cc8_40, cc8_41, cc8_42, -, -, -⟩ := KV.out.all
      have ll8_4 := KV.out.lt
      go_wp2_with (fail)
      refine (iMul mV.r mV.c r c qV q1 qcV qc1 mV.zs xs _ (OV.out.old _).rd (OA.out.old _).rd nV n1).mono ?_
      rintro e w8 ⟨vY, rfl, own, hb⟩
      rw [E2.out] at own ⊢
      obtain ⟨qY, qcY, rfl, -, -⟩ := own.form
      have nY := own.small
      have OA := Lib.hid ((OA.out.old _).keep hb)
      have KA := Lib.hid ((KA.out.old _).step hb)
      have OJ := Lib.hid ((OJ.out.old _).keep hb)
      have KJ := Lib.hid ((KJ.out.old _).step hb)
      have OT := Lib.hid ((OT.out.old _).keep hb)
      have KT := Lib.hid ((KT.out.old _).step hb)
      have OP := Lib.hid ((OP.out.old _).keep hb)
      have KP := Lib.hid ((KP.out.old _).step hb)
      have OV := Lib.hid ((OV.out.old _).keep hb)
      have KV := Lib.hid ((KV.out.old _).step hb)
      have OX := Lib.hid ((OX.out.old _).keep hb)
      have KX : Hid (Blk3 w8 w7.heap.size 27 (.int .i64 (mI.r)) (.int .i64 (mI.c)) (.slice qX mI.zs.length qcX)) := (Blk3.at_ _ _ _ _ rfl).step hb
      have B := Lib.hid (stepB (B.out.alloc B.out.size _) hb)
      clear hb
      have OY := Lib.hid (own.le (Nat.zero_le _))
      clear own
      obtain ⟨cc9_00, cc9_01, cc9_02, -, -, -⟩ := KA.out.all
      have ll9_0 := KA.out.lt
      obtain ⟨cc9_10, cc9_11, cc9_12, -, -, -⟩ := KJ.out.all
      have ll9_1 := KJ.out.lt
      obtain ⟨cc9_20, cc9_21, cc9_22, -, -, -⟩ := KT.out.all
      have ll9_2 := KT.out.lt
      obtain ⟨cc9_30, cc9_31, cc9_32, -, -, -⟩ := KP.out.all
      have ll9_3 := KP.out.lt
      obtain ⟨cc9_40, cc9_41, cc9_42, -, -, -⟩ := KV.out.all
      have ll9_4 := KV.out.lt
      obtain ⟨cc9_50, cc9_51, cc9_52, -, -, -⟩ := KX.out.all
      have ll9_5 := KX.out.lt
      rw [HI.out]
      go_upto_region 19 with (fail)
      obtain ⟨wz8, hw⟩ : ∃ x, w8.alloc (.cells #[.int .i64 mI.r, .int .i64 mI.c, .slice qY mI.zs.length qcY] 27) = x := ⟨_, rfl⟩
      have OA := Lib.hid (OA.out.old (.cells #[.int .i64 mI.r, .int .i64 mI.c, .slice qY mI.zs.length qcY] 27))
      have KA := Lib.hid (KA.out.old (.cells #[.int .i64 mI.r, .int .i64 mI.c, .slice qY mI.zs.length qcY] 27))
      have OJ := Lib.hid (OJ.out.old (.cells #[.int .i64 mI.r, .int .i64 mI.c, .slice qY mI.zs.length qcY] 27))
      have KJ := Lib.hid (KJ.out.old (.cells #[.int .i64 mI.r, .int .i64 mI.c, .slice qY mI.zs.length qcY] 27))
      have OT := Lib.hid (OT.out.old (.cells #[.int .i64 mI.r, .int .i64 mI.c, .slice qY mI.zs.length qcY] 27))
      have KT := Lib.hid (KT.out.old (.cells #[.int .i64 mI.r, .int .i64 mI.c, .slice qY mI.zs.length qcY] 27))
      have OP := Lib.hid (OP.out.old (.cells #[.int .i64 mI.r, .int .i64 mI.c, .slice qY mI.zs.length qcY] 27))
      have KP := Lib.hid (KP.out.old (.cells #[.int .i64 mI.r, .int .i64 mI.c, .slice qY mI.zs.length qcY] 27))
      have OV := Lib.hid (OV.out.old (.cells #[.int .i64 mI.r, .int .i64 mI.c, .slice qY mI.zs.length qcY] 27))
      have KV := Lib.hid (KV.out.old (.cells #[.int .i64 mI.r, .int .i64 mI.c, .slice qY mI.zs.length qcY] 27))
      have OX := Lib.hid (OX.out.old (.cells #[.int .i64 mI.r, .int .i64 mI.c, .slice qY mI.zs.length qcY] 27))
      have KX := Lib.hid (KX.out.old (.cells #[.int .i64 mI.r, .int .i64 mI.c, .slice qY mI.zs.length qcY] 27))
      have OY := Lib.hid (OY.out.old (.cells #[.int .i64 mI.r, .int .i64 mI.c, .slice qY mI.zs.length qcY] 27))
      have KY : Hid (Blk3 (w8.alloc (.cells #[.int .i64 mI.r, .int .i64 mI.c, .slice qY mI.zs.length qcY] 27)) w8.heap.size 27 (.int .i64 mI.r) (.int .i64 mI.c) (.slice qY mI.zs.length qcY)) := Blk3.at_ _ _ _ _ rfl
      have B := Lib.hid (B.out.alloc B.out.size (.cells #[.int .i64 mI.r, .int .i64 mI.c, .slice qY mI.zs.length qcY] 27))
      rw [hw] at OA KA OJ KJ OT KT OP KP OV KV OX KX OY B KY ⊢
      clear hw
      refine wp_region_held_drew (S := fun w' => Below wz8.heap.size wz8 w') (by kernel_rfl) (Below.refl _ _).drew (fun hH => ?_)
      refine wpAnyH_take (i := 0) (v := ?_) (by simp only [List.getElem?_toArray, List.getElem?_cons_zero]; rfl) (by kernel_rfl) (by kernel_rfl) (by kernel_rfl) (by exact fun _ _ _ h => h) (Or.inl ⟨by rfl, ?_⟩) hH ?_
      rotate_left
      · (intro wS hS; clear hS; go_simp; try rfl)
      try simp only [Act.put, List.setIfInBounds_toArray, List.set_cons_zero, List.set_cons_succ]
      refine wpAnyH_take (i := 1) (v := ?_) (by simp only [List.getElem?_toArray, List.getElem?_cons_succ, List.getElem?_cons_zero]; rfl) (by kernel_rfl) (by kernel_rfl) (by kernel_rfl) (by exact fun _ _ _ h => h) (Or.inl ⟨by rfl, ?_⟩) hH ?_
      rotate_left
      · (intro wS hS; clear hS; go_simp; try rfl)
      try simp only [Act.put, List.setIfInBounds_toArray, List.set_cons_zero, List.set_cons_succ]
      refine wpAnyH_take (i := 2) (v := ?_) (by simp only [List.getElem?_toArray, List.getElem?_cons_succ, List.getElem?_cons_zero]; rfl) (by kernel_rfl) (by kernel_rfl) (by kernel_rfl) (by exact fun _ _ _ h => h) (Or.inl ⟨by rfl, ?_⟩) hH ?_
      rotate_left
      · (intro wS hS; clear hS; go_simp; try rfl)
      try simp only [Act.put, List.setIfInBounds_toArray, List.set_cons_zero, List.set_cons_succ]
      refine wpAnyH_take (i := 3) (v := ?_) (by simp only [List.getElem?_toArray, List.getElem?_cons_succ, List.getElem?_cons_zero]; rfl) (by kernel_rfl) (by kernel_rfl) (by kernel_rfl) (by exact fun _ _ _ h => h) (Or.inl ⟨by rfl, ?_⟩) hH ?_
      rotate_left
      · (intro wS hS; clear hS; go_simp; try rfl)
      try simp only [Act.put, List.setIfInBounds_toArray, List.set_cons_zero, List.set_cons_succ]
      refine wpAnyH_take (i := 4) (v := ?_) (by simp only [List.getElem?_toArray, List.getElem?_cons_succ, List.getElem?_cons_zero]; rfl) (by kernel_rfl) (by kernel_rfl) (by kernel_rfl) (by exact fun _ _ _ h => h) (Or.inl ⟨by rfl, ?_⟩) hH ?_
      rotate_left
      · (intro wS hS; clear hS; go_simp; try rfl)
      try simp only [Act.put, List.setIfInBounds_toArray, List.set_cons_zero, List.set_cons_succ]
      refine wpAnyH_take (i := 5) (v := ?_) (by simp only [List.getElem?_toArray, List.getElem?_cons_succ, List.getElem?_cons_zero]; rfl) (by kernel_rfl) (by kernel_rfl) (by kernel_rfl) (by exact fun _ _ _ h => h) (Or.inl ⟨by rfl, ?_⟩) hH ?_
      rotate_left
      · (intro wS hS; clear hS; go_simp; try rfl)
      try simp only [Act.put, List.setIfInBounds_toArray, List.set_cons_zero, List.set_cons_succ]
      refine wpAnyH_ready (rs := [6]) (by kernel_rfl) (by simp) ?_
      refine AllReadyH.cons (by simp only [List.getElem?_toArray, List.getElem?_cons_succ, List.getElem?_cons_zero]; rfl) (fun K hK => ?_) AllReadyH.nil
      go_simp
      (with_reducible refine (lAbs d _ HD.out).mono ?_)
      rintro e v6 ⟨rfl, hb6⟩
      try dsimp only
      refine hK.out _ _ ?_ (fun hH2 => ?_)
      · exact hH.trans (hb6.mono hH.size)
      clear hK K hH
      have hH := hH2
      clear hH2
      try simp only [Act.put, List.setIfInBounds_toArray, List.set_cons_zero, List.set_cons_succ]
      refine wpAnyH_take (i := 7) (v := ?_) (by simp only [List.getElem?_toArray, List.getElem?_cons_succ, List.getElem?_cons_zero]; rfl) (by kernel_rfl) (by kernel_rfl) (by kernel_rfl) (by exact fun _ _ _ h => h) (Or.inl ⟨by rfl, ?_⟩) hH ?_
      rotate_left
      · (intro wS hS; clear hS; go_simp; try rfl)
      try simp only [Act.put, List.setIfInBounds_toArray, List.set_cons_zero, List.set_cons_succ]
      refine wpAnyH_take (i := 8) (v := ?_) (by simp only [List.getElem?_toArray, List.getElem?_cons_succ, List.getElem?_cons_zero]; rfl) (by kernel_rfl) (by kernel_rfl) (by kernel_rfl) (by exact fun _ _ _ h => h) (Or.inl ⟨by rfl, ?_⟩) hH ?_
      rotate_left
      · (intro wS hS; clear hS; go_simp; try rfl)
      try simp only [Act.put, List.setIfInBounds_toArray, List.set_cons_zero, List.set_cons_succ]
      refine wpAnyH_take (i := 9) (v := ?_) (by simp only [List.getElem?_toArray, List.getElem?_cons_succ, List.getElem?_cons_zero]; rfl) (by kernel_rfl) (by kernel_rfl) (by kernel_rfl) (by exact fun _ _ _ h => h) (Or.inl ⟨by rfl, ?_⟩) hH ?_
      rotate_left
      · (intro wS hS; clear hS; go_simp; try rfl)
      try simp only [Act.put, List.setIfInBounds_toArray, List.set_cons_zero, List.set_cons_succ]
      refine wpAnyH_take (i := 10) (v := ?_) (by simp only [List.getElem?_toArray, List.getElem?_cons_succ, List.getElem?_cons_zero]; rfl) (by kernel_rfl) (by kernel_rfl) (by kernel_rfl) (by exact fun _ _ _ h => h) (Or.inl ⟨by rfl, ?_⟩) hH ?_
      rotate_left
      · (intro wS hS; (try dsimp only at hS); obtain ⟨k1, k2, k3, k4, k5, k6, k7, k8, k9⟩ := nineF KA.out KX.out KY.out hS; go_simp; try rfl)
      try simp only [Act.put, List.setIfInBounds_toArray, List.set_cons_zero, List.set_cons_succ]
      refine wpAnyH_take (i := 11) (v := ?_) (by simp only [List.getElem?_toArray, List.getElem?_cons_succ, List.getElem?_cons_zero]; rfl) (by kernel_rfl) (by kernel_rfl) (by kernel_rfl) (by exact fun _ _ _ h => h) (Or.inl ⟨by rfl, ?_⟩) hH ?_
      rotate_left
      · (intro wS hS; (try dsimp only at hS); obtain ⟨k1, k2, k3, k4, k5, k6, k7, k8, k9⟩ := nineF KA.out KX.out KY.out hS; go_simp; try rfl)
      try simp only [Act.put, List.setIfInBounds_toArray, List.set_cons_zero, List.set_cons_succ]
      refine wpAnyH_take (i := 12) (v := ?_) (by simp only [List.getElem?_toArray, List.getElem?_cons_succ, List.getElem?_cons_zero]; rfl) (by kernel_rfl) (by kernel_rfl) (by kernel_rfl) (by exact fun _ _ _ h => h) (Or.inl ⟨by rfl, ?_⟩) hH ?_
      rotate_left
      · (intro wS hS; (try dsimp only at hS); obtain ⟨k1, k2, k3, k4, k5, k6, k7, k8, k9⟩ := nineF KA.out KX.out KY.out hS; go_simp; try rfl)
      try simp only [Act.put, List.setIfInBounds_toArray, List.set_cons_zero, List.set_cons_succ]
      refine wpAnyH_ready (rs := [13]) (by kernel_rfl) (by simp) ?_
      refine AllReadyH.cons (by simp only [List.getElem?_toArray, List.getElem?_cons_succ, List.getElem?_cons_zero]; rfl) (fun K hK => ?_) AllReadyH.nil
      go_simp
      (with_reducible refine (lUnitX r _).mono ?_)
      rintro e v13 ⟨qU13, qcU13, rfl, own, hb13⟩
      rw [HmI.out] at own ⊢
      have OU := Lib.hid (own.le (Nat.zero_le _))
      have nU := own.small
      clear own
      try dsimp only
      refine hK.out _ _ ?_ (fun hH2 => ?_)
      · exact hH.trans (hb13.mono hH.size)
      clear hK K hH
      have hH := hH2
      clear hH2
      try simp only [Act.put, List.setIfInBounds_toArray, List.set_cons_zero, List.set_cons_succ]
      refine wpAnyH_ready (rs := [14]) (by kernel_rfl) (by simp) ?_
      refine AllReadyH.cons (by simp only [List.getElem?_toArray, List.getElem?_cons_succ, List.getElem?_cons_zero]; rfl) (fun K hK => ?_) AllReadyH.nil
      go_simp
      (with_reducible refine (iSameE mI mI qX qU13 qcX qcU13 _ rfl (OX.out.keep hH).rd OU.out.rd nX nU).mono ?_)
      rintro e v14 ⟨rfl, hb14⟩
      try dsimp only
      refine hK.out _ _ ?_ (fun hH2 => ?_)
      · exact hH.trans (hb14.mono hH.size)
      clear hK K hH
      have hH := hH2
      clear hH2
      try simp only [Act.put, List.setIfInBounds_toArray, List.set_cons_zero, List.set_cons_succ]
      refine wpAnyH_take (i := 15) (v := ?_) (by simp only [List.getElem?_toArray, List.getElem?_cons_succ, List.getElem?_cons_zero]; rfl) (by kernel_rfl) (by kernel_rfl) (by kernel_rfl) (by exact fun _ _ _ h => h) (Or.inl ⟨by rfl, ?_⟩) hH ?_
      rotate_left
      · (intro wS hS; clear hS; go_simp; try rfl)
      try simp only [Act.put, List.setIfInBounds_toArray, List.set_cons_zero, List.set_cons_succ]
      refine wpAnyH_take (i := 16) (v := ?_) (by simp only [List.getElem?_toArray, List.getElem?_cons_succ, List.getElem?_cons_zero]; rfl) (by kernel_rfl) (by kernel_rfl) (by kernel_rfl) (by exact fun _ _ _ h => h) (Or.inl ⟨by rfl, ?_⟩) hH ?_
      rotate_left
      · (intro wS hS; clear hS; go_simp; try rfl)
      try simp only [Act.put, List.setIfInBounds_toArray, List.set_cons_zero, List.set_cons_succ]
      refine wpAnyH_take (i := 17) (v := ?_) (by simp only [List.getElem?_toArray, List.getElem?_cons_succ, List.getElem?_cons_zero]; rfl) (by kernel_rfl) (by kernel_rfl) (by kernel_rfl) (by exact fun _ _ _ h => h) (Or.inl ⟨by rfl, ?_⟩) hH ?_
      rotate_left
      · (intro wS hS; (try dsimp only at hS); obtain ⟨k1, k2, k3, k4, k5, k6, k7, k8, k9⟩ := nineF KA.out KX.out KY.out hS; go_simp; try rfl)
      try simp only [Act.put, List.setIfInBounds_toArray, List.set_cons_zero, List.set_cons_succ]
      refine wpAnyH_take (i := 18) (v := ?_) (by simp only [List.getElem?_toArray, List.getElem?_cons_succ, List.getElem?_cons_zero]; rfl) (by kernel_rfl) (by kernel_rfl) (by kernel_rfl) (by exact fun _ _ _ h => h) (Or.inl ⟨by rfl, ?_⟩) hH ?_
      rotate_left
      · (intro wS hS; (try dsimp only at hS); obtain ⟨k1, k2, k3, k4, k5, k6, k7, k8, k9⟩ := nineF KA.out KX.out KY.out hS; go_simp; try rfl)
      try simp only [Act.put, List.setIfInBounds_toArray, List.set_cons_zero, List.set_cons_succ]
      refine wpAnyH_take (i := 19) (v := ?_) (by simp only [List.getElem?_toArray, List.getElem?_cons_succ, List.getElem?_cons_zero]; rfl) (by kernel_rfl) (by kernel_rfl) (by kernel_rfl) (by exact fun _ _ _ h => h) (Or.inl ⟨by rfl, ?_⟩) hH ?_
      rotate_left
      · (intro wS hS; (try dsimp only at hS); obtain ⟨k1, k2, k3, k4, k5, k6, k7, k8, k9⟩ := nineF KA.out KX.out KY.out hS; go_simp; try rfl)
      try simp only [Act.put, List.setIfInBounds_toArray, List.set_cons_zero, List.set_cons_succ]
      refine wpAnyH_ready (rs := [20]) (by kernel_rfl) (by simp) ?_
      refine AllReadyH.cons (by simp only [List.getElem?_toArray, List.getElem?_cons_succ, List.getElem?_cons_zero]; rfl) (fun K hK => ?_) AllReadyH.nil
      go_simp
      (with_reducible refine (lUnitX r _).mono ?_)
      rintro e v20 ⟨qU20, qcU20, rfl, own, hb20⟩
      rw [HmI.out] at own ⊢
      have OU := Lib.hid (own.le (Nat.zero_le _))
      have nU := own.small
      clear own
      try dsimp only
      refine hK.out _ _ ?_ (fun hH2 => ?_)
      · exact hH.trans (hb20.mono hH.size)
      clear hK K hH
      have hH := hH2
      clear hH2
      try simp only [Act.put, List.setIfInBounds_toArray, List.set_cons_zero, List.set_cons_succ]
      refine wpAnyH_ready (rs := [21]) (by kernel_rfl) (by simp) ?_
      refine AllReadyH.cons (by simp only [List.getElem?_toArray, List.getElem?_cons_succ, List.getElem?_cons_zero]; rfl) (fun K hK => ?_) AllReadyH.nil
      go_simp
      (with_reducible refine (sSameE mI mI qY qU20 qcY qcU20 _ rfl (OY.out.keep hH).rd OU.out.rd nY).mono ?_)
      rintro e v21 ⟨rfl, hb21⟩
      try dsimp only
      refine hK.out _ _ ?_ (fun hH2 => ?_)
      · exact hH.trans (hb21.mono hH.size)
      clear hK K hH
      have hH := hH2
      clear hH2
      try simp only [Act.put, List.setIfInBounds_toArray, List.set_cons_zero, List.set_cons_succ]
      refine wpAnyH_take (i := 22) (v := ?_) (by simp only [List.getElem?_toArray, List.getElem?_cons_succ, List.getElem?_cons_zero]; rfl) (by kernel_rfl) (by kernel_rfl) (by kernel_rfl) (by exact fun _ _ _ h => h) (Or.inl ⟨by rfl, ?_⟩) hH ?_
      rotate_left
      · (intro wS hS; clear hS; go_simp; try rfl)
      try simp only [Act.put, List.setIfInBounds_toArray, List.set_cons_zero, List.set_cons_succ]
      refine wpAnyH_take (i := 23) (v := ?_) (by simp only [List.getElem?_toArray, List.getElem?_cons_succ, List.getElem?_cons_zero]; rfl) (by kernel_rfl) (by kernel_rfl) (by kernel_rfl) (by exact fun _ _ _ h => h) (Or.inl ⟨by rfl, ?_⟩) hH ?_
      rotate_left
      · (intro wS hS; clear hS; go_simp; try rfl)
      try simp only [Act.put, List.setIfInBounds_toArray, List.set_cons_zero, List.set_cons_succ]
      refine wpAnyH_done (by kernel_rfl) ?_ _
      go_wp2_with (fail)
      go_ret
      exact ⟨rfl, B.out.trans (hH.mono B.out.size)⟩
    rw [hf1]
    rcases Bool.eq_false_or_eq_true bd with hf2 | hf2
    rotate_left
    · rw [hf2]
      obtain ⟨cc5_00, cc5_01, cc5_02, -, -, -⟩ := KA.out.all
      have ll5_0 := KA.out.lt
      obtain ⟨cc5_10, cc5_11, cc5_12, -, -, -⟩ := KJ.out.all
      have ll5_1 := KJ.out.lt
      obtain ⟨cc5_20, cc5_21, cc5_22, -, -, -⟩ := KT.out.all
      have ll5_2 := KT.out.lt
      go_wp2_with (fail)
      obtain ⟨mV, hmV⟩ : ∃ m, invM r c xs = m := ⟨_, rfl⟩
      have HmV := Lib.hid hmV
      clear hmV
      refine (iInv r c q1 qc1 xs _ (OA.out.old _).rd n1).mono ?_
      rintro e w6 ⟨vV, rfl, own, hb⟩
      rw [HmV.out] at own ⊢
      obtain ⟨qV, qcV, rfl, -, -⟩ := own.form
      have nV := own.small
      have OA := Lib.hid ((OA.out.old _).keep hb)
      have KA := Lib.hid ((KA.out.old _).step hb)
      have OJ := Lib.hid ((OJ.out.old _).keep hb)
      have KJ := Lib.hid ((KJ.out.old _).step hb)
      have OT := Lib.hid ((OT.out.old _).keep hb)
      have KT := Lib.hid ((KT.out.old _).step hb)
      have OP := Lib.hid ((OP.out.old _).keep hb)
      have KP : Hid (Blk3 w6 w5.heap.size 27 (.int .i64 (mP.r)) (.int .i64 (mP.c)) (.slice qP mP.zs.length qcP)) := (Blk3.at_ _ _ _ _ rfl).step hb
      have B := Lib.hid (stepB (B.out.alloc B.out.size _) hb)
      clear hb
      have OV := Lib.hid (own.le (Nat.zero_le _))
      clear own
      obtain ⟨cc6_00, cc6_01, cc6_02, -, -, -⟩ := KA.out.all
      have ll6_0 := KA.out.lt
      obtain ⟨cc6_10, cc6_11, cc6_12, -, -, -⟩ := KJ.out.all
      have ll6_1 := KJ.out.lt
      obtain ⟨cc6_20, cc6_21, cc6_22, -, -, -⟩ := KT.out.all
      have ll6_2 := KT.out.lt
      obtain ⟨cc6_30, cc6_31, cc6_32, -, -, -⟩ := KP.out.all
      have ll6_3 := KP.out.lt
      rcases Bool.eq_false_or_eq_true mV.ok with hg | hg
      rotate_left
      · rw [hg]
        have zV := inv_no HmV.out hg
        have lV : mV.zs.length = 0 := by rw [zV]; rfl
        have LV := Lib.hid lV
        clear zV lV
        obtain ⟨cc7_00, cc7_01, cc7_02, -, -, -⟩ := KA.out.all
        have ll7_0 := KA.out.lt
        obtain ⟨cc7_10, cc7_11, cc7_12, -, -, -⟩ := KJ.out.all
        have ll7_1 := KJ.out.lt
        obtain ⟨cc7_20, cc7_21, cc7_22, -, -, -⟩ := KT.out.all
        have ll7_2 := KT.out.lt
        obtain ⟨cc7_30, cc7_31, cc7_32, -, -, -⟩ := KP.out.all
        have ll7_3 := KP.out.lt
        go_wp2_with (fail)
        go_ret
        exact ⟨by rw [LV.out]; rfl, (B.out.alloc B.out.size _)⟩
      rw [hg]
      obtain ⟨hd, e1, e2, hI⟩ := inv_law HmV.out hg Hd.out
      obtain ⟨mI, hmI⟩ : ∃ m, idM r = m := ⟨_, rfl⟩
      have HmI := Lib.hid hmI
      clear hmI
      rw [HmI.out] at e1 e2 hI
      have E1 := Lib.hid e1
      have E2 := Lib.hid e2
      have HD := Lib.hid hd
      have HI := Lib.hid hI
      clear e1 e2 hd hI
      obtain ⟨cc7_00, cc7_01, cc7_02, -, -, -⟩ := KA.out.all
      have ll7_0 := KA.out.lt
      obtain ⟨cc7_10, cc7_11, cc7_12, -, -, -⟩ := KJ.out.all
      have ll7_1 := KJ.out.lt
      obtain ⟨cc7_20, cc7_21, cc7_22, -, -, -⟩ := KT.out.all
      have ll7_2 := KT.out.lt
      obtain ⟨cc7_30, cc7_31, cc7_32, -, -, -⟩ := KP.out.all
      have ll7_3 := KP.out.lt
      go_wp2_with (fail)
      refine (iMul r c mV.r mV.c q1 qV qc1 qcV xs mV.zs _ (OA.out.old _).rd (OV.out.old _).rd n1 nV).mono ?_
      rintro e w7 ⟨vX, rfl, own, hb⟩
      rw [E1.out] at own ⊢
      obtain ⟨qX, qcX, rfl, -, -⟩ := own.form
      have nX := own.small
      have OA := Lib.hid ((OA.out.old _).keep hb)
      have KA := Lib.hid ((KA.out.old _).step hb)
      have OJ := Lib.hid ((OJ.out.old _).keep hb)
      have KJ := Lib.hid ((KJ.out.old _).step hb)
      have OT := Lib.hid ((OT.out.old _).keep hb)
      have KT := Lib.hid ((KT.out.old _).step hb)
      have OP := Lib.hid ((OP.out.old _).keep hb)
      have KP := Lib.hid ((KP.out.old _).step hb)
      have OV := Lib.hid ((OV.out.old _).keep hb)
      have KV : Hid (Blk3 w7 w6.heap.size 27 (.int .i64 (mV.r)) (.int .i64 (mV.c)) (.slice qV mV.zs.length qcV)) := (Blk3.at_ _ _ _ _ rfl).step hb
      have B := Lib.hid (stepB (B.out.alloc B.out.size _) hb)
      clear hb
      have OX := Lib.hid (own.le (Nat.zero_le _))
      clear own
      obtain ⟨cc8_00, cc8_01, cc8_02, -, -, -⟩ := KA.out.all
      have ll8_0 := KA.out.lt
      obtain ⟨cc8_10, cc8_11, cc8_12, -, -, -⟩ := KJ.out.all
      have ll8_1 := KJ.out.lt
      obtain ⟨cc8_20, cc8_21, cc8_22, -, -, -⟩ := KT.out.all
      have ll8_2 := KT.out.lt
      obtain ⟨cc8_30, cc8_31, cc8_32, -, -, -⟩ := KP.out.all
      have ll8_3 := KP.out.lt
      obtain ⟨cc8_40, cc8_41, cc8_42, -, -, -⟩ := KV.out.all
      have ll8_4 := KV.out.lt
      go_wp2_with (fail)
      refine (iMul mV.r mV.c r c qV q1 qcV qc1 mV.zs xs _ (OV.out.old _).rd (OA.out.old _).rd nV n1).mono ?_
      rintro e w8 ⟨vY, rfl, own, hb⟩
      rw [E2.out] at own ⊢
      obtain ⟨qY, qcY, rfl, -, -⟩ := own.form
      have nY := own.small
      have OA := Lib.hid ((OA.out.old _).keep hb)
      have KA := Lib.hid ((KA.out.old _).step hb)
      have OJ := Lib.hid ((OJ.out.old _).keep hb)
      have KJ := Lib.hid ((KJ.out.old _).step hb)
      have OT := Lib.hid ((OT.out.old _).keep hb)
      have KT := Lib.hid ((KT.out.old _).step hb)
      have OP := Lib.hid ((OP.out.old _).keep hb)
      have KP := Lib.hid ((KP.out.old _).step hb)
      have OV := Lib.hid ((OV.out.old _).keep hb)
      have KV := Lib.hid ((KV.out.old _).step hb)
      have OX := Lib.hid ((OX.out.old _).keep hb)
      have KX : Hid (Blk3 w8 w7.heap.size 27 (.int .i64 (mI.r)) (.int .i64 (mI.c)) (.slice qX mI.zs.length qcX)) := (Blk3.at_ _ _ _ _ rfl).step hb
      have B := Lib.hid (stepB (B.out.alloc B.out.size _) hb)
      clear hb
      have OY := Lib.hid (own.le (Nat.zero_le _))
      clear own
      obtain ⟨cc9_00, cc9_01, cc9_02, -, -, -⟩ := KA.out.all
      have ll9_0 := KA.out.lt
      obtain ⟨cc9_10, cc9_11, cc9_12, -, -, -⟩ := KJ.out.all
      have ll9_1 := KJ.out.lt
      obtain ⟨cc9_20, cc9_21, cc9_22, -, -, -⟩ := KT.out.all
      have ll9_2 := KT.out.lt
      obtain ⟨cc9_30, cc9_31, cc9_32, -, -, -⟩ := KP.out.all
      have ll9_3 := KP.out.lt
      obtain ⟨cc9_40, cc9_41, cc9_42, -, -, -⟩ := KV.out.all
      have ll9_4 := KV.out.lt
      obtain ⟨cc9_50, cc9_51, cc9_52, -, -, -⟩ := KX.out.all
      have ll9_5 := KX.out.lt
      rw [HI.out]
      go_upto_region 19 with (fail)
      obtain ⟨wz8, hw⟩ : ∃ x, w8.alloc (.cells #[.int .i64 mI.r, .int .i64 mI.c, .slice qY mI.zs.length qcY] 27) = x := ⟨_, rfl⟩
      have OA := Lib.hid (OA.out.old (.cells #[.int .i64 mI.r, .int .i64 mI.c, .slice qY mI.zs.length qcY] 27))
      have KA := Lib.hid (KA.out.old (.cells #[.int .i64 mI.r, .int .i64 mI.c, .slice qY mI.zs.length qcY] 27))
      have OJ := Lib.hid (OJ.out.old (.cells #[.int .i64 mI.r, .int .i64 mI.c, .slice qY mI.zs.length qcY] 27))
      have KJ := Lib.hid (KJ.out.old (.cells #[.int .i64 mI.r, .int .i64 mI.c, .slice qY mI.zs.length qcY] 27))
      have OT := Lib.hid (OT.out.old (.cells #[.int .i64 mI.r, .int .i64 mI.c, .slice qY mI.zs.length qcY] 27))
      have KT := Lib.hid (KT.out.old (.cells #[.int .i64 mI.r, .int .i64 mI.c, .slice qY mI.zs.length qcY] 27))
      have OP := Lib.hid (OP.out.old (.cells #[.int .i64 mI.r, .int .i64 mI.c, .slice qY mI.zs.length qcY] 27))
      have KP := Lib.hid (KP.out.old (.cells #[.int .i64 mI.r, .int .i64 mI.c, .slice qY mI.zs.length qcY] 27))
      have OV := Lib.hid (OV.out.old (.cells #[.int .i64 mI.r, .int .i64 mI.c, .slice qY mI.zs.length qcY] 27))
      have KV := Lib.hid (KV.out.old (.cells #[.int .i64 mI.r, .int .i64 mI.c, .slice qY mI.zs.length qcY] 27))
      have OX := Lib.hid (OX.out.old (.cells #[.int .i64 mI.r, .int .i64 mI.c, .slice qY mI.zs.length qcY] 27))
      have KX := Lib.hid (KX.out.old (.cells #[.int .i64 mI.r, .int .i64 mI.c, .slice qY mI.zs.length qcY] 27))
      have OY := Lib.hid (OY.out.old (.cells #[.int .i64 mI.r, .int .i64 mI.c, .slice qY mI.zs.length qcY] 27))
      have KY : Hid (Blk3 (w8.alloc (.cells #[.int .i64 mI.r, .int .i64 mI.c, .slice qY mI.zs.length qcY] 27)) w8.heap.size 27 (.int .i64 mI.r) (.int .i64 mI.c) (.slice qY mI.zs.length qcY)) := Blk3.at_ _ _ _ _ rfl
      have B := Lib.hid (B.out.alloc B.out.size (.cells #[.int .i64 mI.r, .int .i64 mI.c, .slice qY mI.zs.length qcY] 27))
      rw [hw] at OA KA OJ KJ OT KT OP KP OV KV OX KX OY B KY ⊢
      clear hw
      refine wp_region_held_drew (S := fun w' => Below wz8.heap.size wz8 w') (by kernel_rfl) (Below.refl _ _).drew (fun hH => ?_)
      refine wpAnyH_take (i := 0) (v := ?_) (by simp only [List.getElem?_toArray, List.getElem?_cons_zero]; rfl) (by kernel_rfl) (by kernel_rfl) (by kernel_rfl) (by exact fun _ _ _ h => h) (Or.inl ⟨by rfl, ?_⟩) hH ?_
      rotate_left
      · (intro wS hS; clear hS; go_simp; try rfl)
      try simp only [Act.put, List.setIfInBounds_toArray, List.set_cons_zero, List.set_cons_succ]
      refine wpAnyH_take (i := 1) (v := ?_) (by simp only [List.getElem?_toArray, List.getElem?_cons_succ, List.getElem?_cons_zero]; rfl) (by kernel_rfl) (by kernel_rfl) (by kernel_rfl) (by exact fun _ _ _ h => h) (Or.inl ⟨by rfl, ?_⟩) hH ?_
      rotate_left
      · (intro wS hS; clear hS; go_simp; try rfl)
      try simp only [Act.put, List.setIfInBounds_toArray, List.set_cons_zero, List.set_cons_succ]
      refine wpAnyH_take (i := 2) (v := ?_) (by simp only [List.getElem?_toArray, List.getElem?_cons_succ, List.getElem?_cons_zero]; rfl) (by kernel_rfl) (by kernel_rfl) (by kernel_rfl) (by exact fun _ _ _ h => h) (Or.inl ⟨by rfl, ?_⟩) hH ?_
      rotate_left
      · (intro wS hS; clear hS; go_simp; try rfl)
      try simp only [Act.put, List.setIfInBounds_toArray, List.set_cons_zero, List.set_cons_succ]
      refine wpAnyH_take (i := 3) (v := ?_) (by simp only [List.getElem?_toArray, List.getElem?_cons_succ, List.getElem?_cons_zero]; rfl) (by kernel_rfl) (by kernel_rfl) (by kernel_rfl) (by exact fun _ _ _ h => h) (Or.inl ⟨by rfl, ?_⟩) hH ?_
      rotate_left
      · (intro wS hS; clear hS; go_simp; try rfl)
      try simp only [Act.put, List.setIfInBounds_toArray, List.set_cons_zero, List.set_cons_succ]
      refine wpAnyH_take (i := 4) (v := ?_) (by simp only [List.getElem?_toArray, List.getElem?_cons_succ, List.getElem?_cons_zero]; rfl) (by kernel_rfl) (by kernel_rfl) (by kernel_rfl) (by exact fun _ _ _ h => h) (Or.inl ⟨by rfl, ?_⟩) hH ?_
      rotate_left
      · (intro wS hS; clear hS; go_simp; try rfl)
      try simp only [Act.put, List.setIfInBounds_toArray, List.set_cons_zero, List.set_cons_succ]
      refine wpAnyH_take (i := 5) (v := ?_) (by simp only [List.getElem?_toArray, List.getElem?_cons_succ, List.getElem?_cons_zero]; rfl) (by kernel_rfl) (by kernel_rfl) (by kernel_rfl) (by exact fun _ _ _ h => h) (Or.inl ⟨by rfl, ?_⟩) hH ?_
      rotate_left
      · (intro wS hS; clear hS; go_simp; try rfl)
      try simp only [Act.put, List.setIfInBounds_toArray, List.set_cons_zero, List.set_cons_succ]
      refine wpAnyH_ready (rs := [6]) (by kernel_rfl) (by simp) ?_
      refine AllReadyH.cons (by simp only [List.getElem?_toArray, List.getElem?_cons_succ, List.getElem?_cons_zero]; rfl) (fun K hK => ?_) AllReadyH.nil
      go_simp
      (with_reducible refine (lAbs d _ HD.out).mono ?_)
      rintro e v6 ⟨rfl, hb6⟩
      try dsimp only
      refine hK.out _ _ ?_ (fun hH2 => ?_)
      · exact hH.trans (hb6.mono hH.size)
      clear hK K hH
      have hH := hH2
      clear hH2
      try simp only [Act.put, List.setIfInBounds_toArray, List.set_cons_zero, List.set_cons_succ]
      refine wpAnyH_take (i := 7) (v := ?_) (by simp only [List.getElem?_toArray, List.getElem?_cons_succ, List.getElem?_cons_zero]; rfl) (by kernel_rfl) (by kernel_rfl) (by kernel_rfl) (by exact fun _ _ _ h => h) (Or.inl ⟨by rfl, ?_⟩) hH ?_
      rotate_left
      · (intro wS hS; clear hS; go_simp; try rfl)
      try simp only [Act.put, List.setIfInBounds_toArray, List.set_cons_zero, List.set_cons_succ]
      refine wpAnyH_take (i := 8) (v := ?_) (by simp only [List.getElem?_toArray, List.getElem?_cons_succ, List.getElem?_cons_zero]; rfl) (by kernel_rfl) (by kernel_rfl) (by kernel_rfl) (by exact fun _ _ _ h => h) (Or.inl ⟨by rfl, ?_⟩) hH ?_
      rotate_left
      · (intro wS hS; clear hS; go_simp; try rfl)
      try simp only [Act.put, List.setIfInBounds_toArray, List.set_cons_zero, List.set_cons_succ]
      refine wpAnyH_take (i := 9) (v := ?_) (by simp only [List.getElem?_toArray, List.getElem?_cons_succ, List.getElem?_cons_zero]; rfl) (by kernel_rfl) (by kernel_rfl) (by kernel_rfl) (by exact fun _ _ _ h => h) (Or.inl ⟨by rfl, ?_⟩) hH ?_
      rotate_left
      · (intro wS hS; clear hS; go_simp; try rfl)
      try simp only [Act.put, List.setIfInBounds_toArray, List.set_cons_zero, List.set_cons_succ]
      refine wpAnyH_take (i := 10) (v := ?_) (by simp only [List.getElem?_toArray, List.getElem?_cons_succ, List.getElem?_cons_zero]; rfl) (by kernel_rfl) (by kernel_rfl) (by kernel_rfl) (by exact fun _ _ _ h => h) (Or.inl ⟨by rfl, ?_⟩) hH ?_
      rotate_left
      · (intro wS hS; (try dsimp only at hS); obtain ⟨k1, k2, k3, k4, k5, k6, k7, k8, k9⟩ := nineF KA.out KX.out KY.out hS; go_simp; try rfl)
      try simp only [Act.put, List.setIfInBounds_toArray, List.set_cons_zero, List.set_cons_succ]
      refine wpAnyH_take (i := 11) (v := ?_) (by simp only [List.getElem?_toArray, List.getElem?_cons_succ, List.getElem?_cons_zero]; rfl) (by kernel_rfl) (by kernel_rfl) (by kernel_rfl) (by exact fun _ _ _ h => h) (Or.inl ⟨by rfl, ?_⟩) hH ?_
      rotate_left
      · (intro wS hS; (try dsimp only at hS); obtain ⟨k1, k2, k3, k4, k5, k6, k7, k8, k9⟩ := nineF KA.out KX.out KY.out hS; go_simp; try rfl)
      try simp only [Act.put, List.setIfInBounds_toArray, List.set_cons_zero, List.set_cons_succ]
      refine wpAnyH_take (i := 12) (v := ?_) (by simp only [List.getElem?_toArray, List.getElem?_cons_succ, List.getElem?_cons_zero]; rfl) (by kernel_rfl) (by kernel_rfl) (by kernel_rfl) (by exact fun _ _ _ h => h) (Or.inl ⟨by rfl, ?_⟩) hH ?_
      rotate_left
      · (intro wS hS; (try dsimp only at hS); obtain ⟨k1, k2, k3, k4, k5, k6, k7, k8, k9⟩ := nineF KA.out KX.out KY.out hS; go_simp; try rfl)
      try simp only [Act.put, List.setIfInBounds_toArray, List.set_cons_zero, List.set_cons_succ]
      refine wpAnyH_ready (rs := [13]) (by kernel_rfl) (by simp) ?_
      refine AllReadyH.cons (by simp only [List.getElem?_toArray, List.getElem?_cons_succ, List.getElem?_cons_zero]; rfl) (fun K hK => ?_) AllReadyH.nil
      go_simp
      (with_reducible refine (lUnitX r _).mono ?_)
      rintro e v13 ⟨qU13, qcU13, rfl, own, hb13⟩
      rw [HmI.out] at own ⊢
      have OU := Lib.hid (own.le (Nat.zero_le _))
      have nU := own.small
      clear own
      try dsimp only
      refine hK.out _ _ ?_ (fun hH2 => ?_)
      · exact hH.trans (hb13.mono hH.size)
      clear hK K hH
      have hH := hH2
      clear hH2
      try simp only [Act.put, List.setIfInBounds_toArray, List.set_cons_zero, List.set_cons_succ]
      refine wpAnyH_ready (rs := [14]) (by kernel_rfl) (by simp) ?_
      refine AllReadyH.cons (by simp only [List.getElem?_toArray, List.getElem?_cons_succ, List.getElem?_cons_zero]; rfl) (fun K hK => ?_) AllReadyH.nil
      go_simp
      (with_reducible refine (iSameE mI mI qX qU13 qcX qcU13 _ rfl (OX.out.keep hH).rd OU.out.rd nX nU).mono ?_)
      rintro e v14 ⟨rfl, hb14⟩
      try dsimp only
      refine hK.out _ _ ?_ (fun hH2 => ?_)
      · exact hH.trans (hb14.mono hH.size)
      clear hK K hH
      have hH := hH2
      clear hH2
      try simp only [Act.put, List.setIfInBounds_toArray, List.set_cons_zero, List.set_cons_succ]
      refine wpAnyH_take (i := 15) (v := ?_) (by simp only [List.getElem?_toArray, List.getElem?_cons_succ, List.getElem?_cons_zero]; rfl) (by kernel_rfl) (by kernel_rfl) (by kernel_rfl) (by exact fun _ _ _ h => h) (Or.inl ⟨by rfl, ?_⟩) hH ?_
      rotate_left
      · (intro wS hS; clear hS; go_simp; try rfl)
      try simp only [Act.put, List.setIfInBounds_toArray, List.set_cons_zero, List.set_cons_succ]
      refine wpAnyH_take (i := 16) (v := ?_) (by simp only [List.getElem?_toArray, List.getElem?_cons_succ, List.getElem?_cons_zero]; rfl) (by kernel_rfl) (by kernel_rfl) (by kernel_rfl) (by exact fun _ _ _ h => h) (Or.inl ⟨by rfl, ?_⟩) hH ?_
      rotate_left
      · (intro wS hS; clear hS; go_simp; try rfl)
      try simp only [Act.put, List.setIfInBounds_toArray, List.set_cons_zero, List.set_cons_succ]
      refine wpAnyH_take (i := 17) (v := ?_) (by simp only [List.getElem?_toArray, List.getElem?_cons_succ, List.getElem?_cons_zero]; rfl) (by kernel_rfl) (by kernel_rfl) (by kernel_rfl) (by exact fun _ _ _ h => h) (Or.inl ⟨by rfl, ?_⟩) hH ?_
      rotate_left
      · (intro wS hS; (try dsimp only at hS); obtain ⟨k1, k2, k3, k4, k5, k6, k7, k8, k9⟩ := nineF KA.out KX.out KY.out hS; go_simp; try rfl)
      try simp only [Act.put, List.setIfInBounds_toArray, List.set_cons_zero, List.set_cons_succ]
      refine wpAnyH_take (i := 18) (v := ?_) (by simp only [List.getElem?_toArray, List.getElem?_cons_succ, List.getElem?_cons_zero]; rfl) (by kernel_rfl) (by kernel_rfl) (by kernel_rfl) (by exact fun _ _ _ h => h) (Or.inl ⟨by rfl, ?_⟩) hH ?_
      rotate_left
      · (intro wS hS; (try dsimp only at hS); obtain ⟨k1, k2, k3, k4, k5, k6, k7, k8, k9⟩ := nineF KA.out KX.out KY.out hS; go_simp; try rfl)
      try simp only [Act.put, List.setIfInBounds_toArray, List.set_cons_zero, List.set_cons_succ]
      refine wpAnyH_take (i := 19) (v := ?_) (by simp only [List.getElem?_toArray, List.getElem?_cons_succ, List.getElem?_cons_zero]; rfl) (by kernel_rfl) (by kernel_rfl) (by kernel_rfl) (by exact fun _ _ _ h => h) (Or.inl ⟨by rfl, ?_⟩) hH ?_
      rotate_left
      · (intro wS hS; (try dsimp only at hS); obtain ⟨k1, k2, k3, k4, k5, k6, k7, k8, k9⟩ := nineF KA.out KX.out KY.out hS; go_simp; try rfl)
      try simp only [Act.put, List.setIfInBounds_toArray, List.set_cons_zero, List.set_cons_succ]
      refine wpAnyH_ready (rs := [20]) (by kernel_rfl) (by simp) ?_
      refine AllReadyH.cons (by simp only [List.getElem?_toArray, List.getElem?_cons_succ, List.getElem?_cons_zero]; rfl) (fun K hK => ?_) AllReadyH.nil
      go_simp
      (with_reducible refine (lUnitX r _).mono ?_)
      rintro e v20 ⟨qU20, qcU20, rfl, own, hb20⟩
      rw [HmI.out] at own ⊢
      have OU := Lib.hid (own.le (Nat.zero_le _))
      have nU := own.small
      clear own
      try dsimp only
      refine hK.out _ _ ?_ (fun hH2 => ?_)
      · exact hH.trans (hb20.mono hH.size)
      clear hK K hH
      have hH := hH2
      clear hH2
      try simp only [Act.put, List.setIfInBounds_toArray, List.set_cons_zero, List.set_cons_succ]
      refine wpAnyH_ready (rs := [21]) (by kernel_rfl) (by simp) ?_
      refine AllReadyH.cons (by simp only [List.getElem?_toArray, List.getElem?_cons_succ, List.getElem?_cons_zero]; rfl) (fun K hK => ?_) AllReadyH.nil
      go_simp
      (with_reducible refine (sSameE mI mI qY qU20 qcY qcU20 _ rfl (OY.out.keep hH).rd OU.out.rd nY).mono ?_)
      rintro e v21 ⟨rfl, hb21⟩
      try dsimp only
      refine hK.out _ _ ?_ (fun hH2 => ?_)
      · exact hH.trans (hb21.mono hH.size)
      clear hK K hH
      have hH := hH2
      clear hH2
      try simp only [Act.put, List.setIfInBounds_toArray, List.set_cons_zero, List.set_cons_succ]
      refine wpAnyH_take (i := 22) (v := ?_) (by simp only [List.getElem?_toArray, List.getElem?_cons_succ, List.getElem?_cons_zero]; rfl) (by kernel_rfl) (by kernel_rfl) (by kernel_rfl) (by exact fun _ _ _ h => h) (Or.inl ⟨by rfl, ?_⟩) hH ?_
      rotate_left
      · (intro wS hS; clear hS; go_simp; try rfl)
      try simp only [Act.put, List.setIfInBounds_toArray, List.set_cons_zero, List.set_cons_succ]
      refine wpAnyH_take (i := 23) (v := ?_) (by simp only [List.getElem?_toArray, List.getElem?_cons_succ, List.getElem?_cons_zero]; rfl) (by kernel_rfl) (by kernel_rfl) (by kernel_rfl) (by exact fun _ _ _ h => h) (Or.inl ⟨by rfl, ?_⟩) hH ?_
      rotate_left
      · (intro wS hS; clear hS; go_simp; try rfl)
      try simp only [Act.put, List.setIfInBounds_toArray, List.set_cons_zero, List.set_cons_succ]
      refine wpAnyH_done (by kernel_rfl) ?_ _
      go_wp2_with (fail)
      go_ret
      exact ⟨rfl, B.out.trans (hH.mono B.out.size)⟩
    rw [hf2]
    rcases Bool.eq_false_or_eq_true mP.ok with hf3 | hf3
    rotate_left
    · rw [hf3]
      obtain ⟨cc5_00, cc5_01, cc5_02, -, -, -⟩ := KA.out.all
      have ll5_0 := KA.out.lt
      obtain ⟨cc5_10, cc5_11, cc5_12, -, -, -⟩ := KJ.out.all
      have ll5_1 := KJ.out.lt
      obtain ⟨cc5_20, cc5_21, cc5_22, -, -, -⟩ := KT.out.all
      have ll5_2 := KT.out.lt
      go_wp2_with (fail)
      obtain ⟨mV, hmV⟩ : ∃ m, invM r c xs = m := ⟨_, rfl⟩
      have HmV := Lib.hid hmV
      clear hmV
      refine (iInv r c q1 qc1 xs _ (OA.out.old _).rd n1).mono ?_
      rintro e w6 ⟨vV, rfl, own, hb⟩
      rw [HmV.out] at own ⊢
      obtain ⟨qV, qcV, rfl, -, -⟩ := own.form
      have nV := own.small
      have OA := Lib.hid ((OA.out.old _).keep hb)
      have KA := Lib.hid ((KA.out.old _).step hb)
      have OJ := Lib.hid ((OJ.out.old _).keep hb)
      have KJ := Lib.hid ((KJ.out.old _).step hb)
      have OT := Lib.hid ((OT.out.old _).keep hb)
      have KT := Lib.hid ((KT.out.old _).step hb)
      have OP := Lib.hid ((OP.out.old _).keep hb)
      have KP : Hid (Blk3 w6 w5.heap.size 27 (.int .i64 (mP.r)) (.int .i64 (mP.c)) (.slice qP mP.zs.length qcP)) := (Blk3.at_ _ _ _ _ rfl).step hb
      have B := Lib.hid (stepB (B.out.alloc B.out.size _) hb)
      clear hb
      have OV := Lib.hid (own.le (Nat.zero_le _))
      clear own
      obtain ⟨cc6_00, cc6_01, cc6_02, -, -, -⟩ := KA.out.all
      have ll6_0 := KA.out.lt
      obtain ⟨cc6_10, cc6_11, cc6_12, -, -, -⟩ := KJ.out.all
      have ll6_1 := KJ.out.lt
      obtain ⟨cc6_20, cc6_21, cc6_22, -, -, -⟩ := KT.out.all
      have ll6_2 := KT.out.lt
      obtain ⟨cc6_30, cc6_31, cc6_32, -, -, -⟩ := KP.out.all
      have ll6_3 := KP.out.lt
      rcases Bool.eq_false_or_eq_true mV.ok with hg | hg
      rotate_left
      · rw [hg]
        have zV := inv_no HmV.out hg
        have lV : mV.zs.length = 0 := by rw [zV]; rfl
        have LV := Lib.hid lV
        clear zV lV
        obtain ⟨cc7_00, cc7_01, cc7_02, -, -, -⟩ := KA.out.all
        have ll7_0 := KA.out.lt
        obtain ⟨cc7_10, cc7_11, cc7_12, -, -, -⟩ := KJ.out.all
        have ll7_1 := KJ.out.lt
        obtain ⟨cc7_20, cc7_21, cc7_22, -, -, -⟩ := KT.out.all
        have ll7_2 := KT.out.lt
        obtain ⟨cc7_30, cc7_31, cc7_32, -, -, -⟩ := KP.out.all
        have ll7_3 := KP.out.lt
        go_wp2_with (fail)
        go_ret
        exact ⟨by rw [LV.out]; rfl, (B.out.alloc B.out.size _)⟩
      rw [hg]
      obtain ⟨hd, e1, e2, hI⟩ := inv_law HmV.out hg Hd.out
      obtain ⟨mI, hmI⟩ : ∃ m, idM r = m := ⟨_, rfl⟩
      have HmI := Lib.hid hmI
      clear hmI
      rw [HmI.out] at e1 e2 hI
      have E1 := Lib.hid e1
      have E2 := Lib.hid e2
      have HD := Lib.hid hd
      have HI := Lib.hid hI
      clear e1 e2 hd hI
      obtain ⟨cc7_00, cc7_01, cc7_02, -, -, -⟩ := KA.out.all
      have ll7_0 := KA.out.lt
      obtain ⟨cc7_10, cc7_11, cc7_12, -, -, -⟩ := KJ.out.all
      have ll7_1 := KJ.out.lt
      obtain ⟨cc7_20, cc7_21, cc7_22, -, -, -⟩ := KT.out.all
      have ll7_2 := KT.out.lt
      obtain ⟨cc7_30, cc7_31, cc7_32, -, -, -⟩ := KP.out.all
      have ll7_3 := KP.out.lt
      go_wp2_with (fail)
      refine (iMul r c mV.r mV.c q1 qV qc1 qcV xs mV.zs _ (OA.out.old _).rd (OV.out.old _).rd n1 nV).mono ?_
      rintro e w7 ⟨vX, rfl, own, hb⟩
      rw [E1.out] at own ⊢
      obtain ⟨qX, qcX, rfl, -, -⟩ := own.form
      have nX := own.small
      have OA := Lib.hid ((OA.out.old _).keep hb)
      have KA := Lib.hid ((KA.out.old _).step hb)
      have OJ := Lib.hid ((OJ.out.old _).keep hb)
      have KJ := Lib.hid ((KJ.out.old _).step hb)
      have OT := Lib.hid ((OT.out.old _).keep hb)
      have KT := Lib.hid ((KT.out.old _).step hb)
      have OP := Lib.hid ((OP.out.old _).keep hb)
      have KP := Lib.hid ((KP.out.old _).step hb)
      have OV := Lib.hid ((OV.out.old _).keep hb)
      have KV : Hid (Blk3 w7 w6.heap.size 27 (.int .i64 (mV.r)) (.int .i64 (mV.c)) (.slice qV mV.zs.length qcV)) := (Blk3.at_ _ _ _ _ rfl).step hb
      have B := Lib.hid (stepB (B.out.alloc B.out.size _) hb)
      clear hb
      have OX := Lib.hid (own.le (Nat.zero_le _))
      clear own
      obtain ⟨cc8_00, cc8_01, cc8_02, -, -, -⟩ := KA.out.all
      have ll8_0 := KA.out.lt
      obtain ⟨cc8_10, cc8_11, cc8_12, -, -, -⟩ := KJ.out.all
      have ll8_1 := KJ.out.lt
      obtain ⟨cc8_20, cc8_21, cc8_22, -, -, -⟩ := KT.out.all
      have ll8_2 := KT.out.lt
      obtain ⟨cc8_30, cc8_31, cc8_32, -, -, -⟩ := KP.out.all
      have ll8_3 := KP.out.lt
      obtain ⟨cc8_40, cc8_41, cc8_42, -, -, -⟩ := KV.out.all
      have ll8_4 := KV.out.lt
      go_wp2_with (fail)
      refine (iMul mV.r mV.c r c qV q1 qcV qc1 mV.zs xs _ (OV.out.old _).rd (OA.out.old _).rd nV n1).mono ?_
      rintro e w8 ⟨vY, rfl, own, hb⟩
      rw [E2.out] at own ⊢
      obtain ⟨qY, qcY, rfl, -, -⟩ := own.form
      have nY := own.small
      have OA := Lib.hid ((OA.out.old _).keep hb)
      have KA := Lib.hid ((KA.out.old _).step hb)
      have OJ := Lib.hid ((OJ.out.old _).keep hb)
      have KJ := Lib.hid ((KJ.out.old _).step hb)
      have OT := Lib.hid ((OT.out.old _).keep hb)
      have KT := Lib.hid ((KT.out.old _).step hb)
      have OP := Lib.hid ((OP.out.old _).keep hb)
      have KP := Lib.hid ((KP.out.old _).step hb)
      have OV := Lib.hid ((OV.out.old _).keep hb)
      have KV := Lib.hid ((KV.out.old _).step hb)
      have OX := Lib.hid ((OX.out.old _).keep hb)
      have KX : Hid (Blk3 w8 w7.heap.size 27 (.int .i64 (mI.r)) (.int .i64 (mI.c)) (.slice qX mI.zs.length qcX)) := (Blk3.at_ _ _ _ _ rfl).step hb
      have B := Lib.hid (stepB (B.out.alloc B.out.size _) hb)
      clear hb
      have OY := Lib.hid (own.le (Nat.zero_le _))
      clear own
      obtain ⟨cc9_00, cc9_01, cc9_02, -, -, -⟩ := KA.out.all
      have ll9_0 := KA.out.lt
      obtain ⟨cc9_10, cc9_11, cc9_12, -, -, -⟩ := KJ.out.all
      have ll9_1 := KJ.out.lt
      obtain ⟨cc9_20, cc9_21, cc9_22, -, -, -⟩ := KT.out.all
      have ll9_2 := KT.out.lt
      obtain ⟨cc9_30, cc9_31, cc9_32, -, -, -⟩ := KP.out.all
      have ll9_3 := KP.out.lt
      obtain ⟨cc9_40, cc9_41, cc9_42, -, -, -⟩ := KV.out.all
      have ll9_4 := KV.out.lt
      obtain ⟨cc9_50, cc9_51, cc9_52, -, -, -⟩ := KX.out.all
      have ll9_5 := KX.out.lt
      rw [HI.out]
      go_upto_region 19 with (fail)
      obtain ⟨wz8, hw⟩ : ∃ x, w8.alloc (.cells #[.int .i64 mI.r, .int .i64 mI.c, .slice qY mI.zs.length qcY] 27) = x := ⟨_, rfl⟩
      have OA := Lib.hid (OA.out.old (.cells #[.int .i64 mI.r, .int .i64 mI.c, .slice qY mI.zs.length qcY] 27))
      have KA := Lib.hid (KA.out.old (.cells #[.int .i64 mI.r, .int .i64 mI.c, .slice qY mI.zs.length qcY] 27))
      have OJ := Lib.hid (OJ.out.old (.cells #[.int .i64 mI.r, .int .i64 mI.c, .slice qY mI.zs.length qcY] 27))
      have KJ := Lib.hid (KJ.out.old (.cells #[.int .i64 mI.r, .int .i64 mI.c, .slice qY mI.zs.length qcY] 27))
      have OT := Lib.hid (OT.out.old (.cells #[.int .i64 mI.r, .int .i64 mI.c, .slice qY mI.zs.length qcY] 27))
      have KT := Lib.hid (KT.out.old (.cells #[.int .i64 mI.r, .int .i64 mI.c, .slice qY mI.zs.length qcY] 27))
      have OP := Lib.hid (OP.out.old (.cells #[.int .i64 mI.r, .int .i64 mI.c, .slice qY mI.zs.length qcY] 27))
      have KP := Lib.hid (KP.out.old (.cells #[.int .i64 mI.r, .int .i64 mI.c, .slice qY mI.zs.length qcY] 27))
      have OV := Lib.hid (OV.out.old (.cells #[.int .i64 mI.r, .int .i64 mI.c, .slice qY mI.zs.length qcY] 27))
      have KV := Lib.hid (KV.out.old (.cells #[.int .i64 mI.r, .int .i64 mI.c, .slice qY mI.zs.length qcY] 27))
      have OX := Lib.hid (OX.out.old (.cells #[.int .i64 mI.r, .int .i64 mI.c, .slice qY mI.zs.length qcY] 27))
      have KX := Lib.hid (KX.out.old (.cells #[.int .i64 mI.r, .int .i64 mI.c, .slice qY mI.zs.length qcY] 27))
      have OY := Lib.hid (OY.out.old (.cells #[.int .i64 mI.r, .int .i64 mI.c, .slice qY mI.zs.length qcY] 27))
      have KY : Hid (Blk3 (w8.alloc (.cells #[.int .i64 mI.r, .int .i64 mI.c, .slice qY mI.zs.length qcY] 27)) w8.heap.size 27 (.int .i64 mI.r) (.int .i64 mI.c) (.slice qY mI.zs.length qcY)) := Blk3.at_ _ _ _ _ rfl
      have B := Lib.hid (B.out.alloc B.out.size (.cells #[.int .i64 mI.r, .int .i64 mI.c, .slice qY mI.zs.length qcY] 27))
      rw [hw] at OA KA OJ KJ OT KT OP KP OV KV OX KX OY B KY ⊢
      clear hw
      refine wp_region_held_drew (S := fun w' => Below wz8.heap.size wz8 w') (by kernel_rfl) (Below.refl _ _).drew (fun hH => ?_)
      refine wpAnyH_take (i := 0) (v := ?_) (by simp only [List.getElem?_toArray, List.getElem?_cons_zero]; rfl) (by kernel_rfl) (by kernel_rfl) (by kernel_rfl) (by exact fun _ _ _ h => h) (Or.inl ⟨by rfl, ?_⟩) hH ?_
      rotate_left
      · (intro wS hS; clear hS; go_simp; try rfl)
      try simp only [Act.put, List.setIfInBounds_toArray, List.set_cons_zero, List.set_cons_succ]
      refine wpAnyH_take (i := 1) (v := ?_) (by simp only [List.getElem?_toArray, List.getElem?_cons_succ, List.getElem?_cons_zero]; rfl) (by kernel_rfl) (by kernel_rfl) (by kernel_rfl) (by exact fun _ _ _ h => h) (Or.inl ⟨by rfl, ?_⟩) hH ?_
      rotate_left
      · (intro wS hS; clear hS; go_simp; try rfl)
      try simp only [Act.put, List.setIfInBounds_toArray, List.set_cons_zero, List.set_cons_succ]
      refine wpAnyH_take (i := 2) (v := ?_) (by simp only [List.getElem?_toArray, List.getElem?_cons_succ, List.getElem?_cons_zero]; rfl) (by kernel_rfl) (by kernel_rfl) (by kernel_rfl) (by exact fun _ _ _ h => h) (Or.inl ⟨by rfl, ?_⟩) hH ?_
      rotate_left
      · (intro wS hS; clear hS; go_simp; try rfl)
      try simp only [Act.put, List.setIfInBounds_toArray, List.set_cons_zero, List.set_cons_succ]
      refine wpAnyH_take (i := 3) (v := ?_) (by simp only [List.getElem?_toArray, List.getElem?_cons_succ, List.getElem?_cons_zero]; rfl) (by kernel_rfl) (by kernel_rfl) (by kernel_rfl) (by exact fun _ _ _ h => h) (Or.inl ⟨by rfl, ?_⟩) hH ?_
      rotate_left
      · (intro wS hS; clear hS; go_simp; try rfl)
      try simp only [Act.put, List.setIfInBounds_toArray, List.set_cons_zero, List.set_cons_succ]
      refine wpAnyH_take (i := 4) (v := ?_) (by simp only [List.getElem?_toArray, List.getElem?_cons_succ, List.getElem?_cons_zero]; rfl) (by kernel_rfl) (by kernel_rfl) (by kernel_rfl) (by exact fun _ _ _ h => h) (Or.inl ⟨by rfl, ?_⟩) hH ?_
      rotate_left
      · (intro wS hS; clear hS; go_simp; try rfl)
      try simp only [Act.put, List.setIfInBounds_toArray, List.set_cons_zero, List.set_cons_succ]
      refine wpAnyH_take (i := 5) (v := ?_) (by simp only [List.getElem?_toArray, List.getElem?_cons_succ, List.getElem?_cons_zero]; rfl) (by kernel_rfl) (by kernel_rfl) (by kernel_rfl) (by exact fun _ _ _ h => h) (Or.inl ⟨by rfl, ?_⟩) hH ?_
      rotate_left
      · (intro wS hS; clear hS; go_simp; try rfl)
      try simp only [Act.put, List.setIfInBounds_toArray, List.set_cons_zero, List.set_cons_succ]
      refine wpAnyH_ready (rs := [6]) (by kernel_rfl) (by simp) ?_
      refine AllReadyH.cons (by simp only [List.getElem?_toArray, List.getElem?_cons_succ, List.getElem?_cons_zero]; rfl) (fun K hK => ?_) AllReadyH.nil
      go_simp
      (with_reducible refine (lAbs d _ HD.out).mono ?_)
      rintro e v6 ⟨rfl, hb6⟩
      try dsimp only
      refine hK.out _ _ ?_ (fun hH2 => ?_)
      · exact hH.trans (hb6.mono hH.size)
      clear hK K hH
      have hH := hH2
      clear hH2
      try simp only [Act.put, List.setIfInBounds_toArray, List.set_cons_zero, List.set_cons_succ]
      refine wpAnyH_take (i := 7) (v := ?_) (by simp only [List.getElem?_toArray, List.getElem?_cons_succ, List.getElem?_cons_zero]; rfl) (by kernel_rfl) (by kernel_rfl) (by kernel_rfl) (by exact fun _ _ _ h => h) (Or.inl ⟨by rfl, ?_⟩) hH ?_
      rotate_left
      · (intro wS hS; clear hS; go_simp; try rfl)
      try simp only [Act.put, List.setIfInBounds_toArray, List.set_cons_zero, List.set_cons_succ]
      refine wpAnyH_take (i := 8) (v := ?_) (by simp only [List.getElem?_toArray, List.getElem?_cons_succ, List.getElem?_cons_zero]; rfl) (by kernel_rfl) (by kernel_rfl) (by kernel_rfl) (by exact fun _ _ _ h => h) (Or.inl ⟨by rfl, ?_⟩) hH ?_
      rotate_left
      · (intro wS hS; clear hS; go_simp; try rfl)
      try simp only [Act.put, List.setIfInBounds_toArray, List.set_cons_zero, List.set_cons_succ]
      refine wpAnyH_take (i := 9) (v := ?_) (by simp only [List.getElem?_toArray, List.getElem?_cons_succ, List.getElem?_cons_zero]; rfl) (by kernel_rfl) (by kernel_rfl) (by kernel_rfl) (by exact fun _ _ _ h => h) (Or.inl ⟨by rfl, ?_⟩) hH ?_
      rotate_left
      · (intro wS hS; clear hS; go_simp; try rfl)
      try simp only [Act.put, List.setIfInBounds_toArray, List.set_cons_zero, List.set_cons_succ]
      refine wpAnyH_take (i := 10) (v := ?_) (by simp only [List.getElem?_toArray, List.getElem?_cons_succ, List.getElem?_cons_zero]; rfl) (by kernel_rfl) (by kernel_rfl) (by kernel_rfl) (by exact fun _ _ _ h => h) (Or.inl ⟨by rfl, ?_⟩) hH ?_
      rotate_left
      · (intro wS hS; (try dsimp only at hS); obtain ⟨k1, k2, k3, k4, k5, k6, k7, k8, k9⟩ := nineF KA.out KX.out KY.out hS; go_simp; try rfl)
      try simp only [Act.put, List.setIfInBounds_toArray, List.set_cons_zero, List.set_cons_succ]
      refine wpAnyH_take (i := 11) (v := ?_) (by simp only [List.getElem?_toArray, List.getElem?_cons_succ, List.getElem?_cons_zero]; rfl) (by kernel_rfl) (by kernel_rfl) (by kernel_rfl) (by exact fun _ _ _ h => h) (Or.inl ⟨by rfl, ?_⟩) hH ?_
      rotate_left
      · (intro wS hS; (try dsimp only at hS); obtain ⟨k1, k2, k3, k4, k5, k6, k7, k8, k9⟩ := nineF KA.out KX.out KY.out hS; go_simp; try rfl)
      try simp only [Act.put, List.setIfInBounds_toArray, List.set_cons_zero, List.set_cons_succ]
      refine wpAnyH_take (i := 12) (v := ?_) (by simp only [List.getElem?_toArray, List.getElem?_cons_succ, List.getElem?_cons_zero]; rfl) (by kernel_rfl) (by kernel_rfl) (by kernel_rfl) (by exact fun _ _ _ h => h) (Or.inl ⟨by rfl, ?_⟩) hH ?_
      rotate_left
      · (intro wS hS; (try dsimp only at hS); obtain ⟨k1, k2, k3, k4, k5, k6, k7, k8, k9⟩ := nineF KA.out KX.out KY.out hS; go_simp; try rfl)
      try simp only [Act.put, List.setIfInBounds_toArray, List.set_cons_zero, List.set_cons_succ]
      refine wpAnyH_ready (rs := [13]) (by kernel_rfl) (by simp) ?_
      refine AllReadyH.cons (by simp only [List.getElem?_toArray, List.getElem?_cons_succ, List.getElem?_cons_zero]; rfl) (fun K hK => ?_) AllReadyH.nil
      go_simp
      (with_reducible refine (lUnitX r _).mono ?_)
      rintro e v13 ⟨qU13, qcU13, rfl, own, hb13⟩
      rw [HmI.out] at own ⊢
      have OU := Lib.hid (own.le (Nat.zero_le _))
      have nU := own.small
      clear own
      try dsimp only
      refine hK.out _ _ ?_ (fun hH2 => ?_)
      · exact hH.trans (hb13.mono hH.size)
      clear hK K hH
      have hH := hH2
      clear hH2
      try simp only [Act.put, List.setIfInBounds_toArray, List.set_cons_zero, List.set_cons_succ]
      refine wpAnyH_ready (rs := [14]) (by kernel_rfl) (by simp) ?_
      refine AllReadyH.cons (by simp only [List.getElem?_toArray, List.getElem?_cons_succ, List.getElem?_cons_zero]; rfl) (fun K hK => ?_) AllReadyH.nil
      go_simp
      (with_reducible refine (iSameE mI mI qX qU13 qcX qcU13 _ rfl (OX.out.keep hH).rd OU.out.rd nX nU).mono ?_)
      rintro e v14 ⟨rfl, hb14⟩
      try dsimp only
      refine hK.out _ _ ?_ (fun hH2 => ?_)
      · exact hH.trans (hb14.mono hH.size)
      clear hK K hH
      have hH := hH2
      clear hH2
      try simp only [Act.put, List.setIfInBounds_toArray, List.set_cons_zero, List.set_cons_succ]
      refine wpAnyH_take (i := 15) (v := ?_) (by simp only [List.getElem?_toArray, List.getElem?_cons_succ, List.getElem?_cons_zero]; rfl) (by kernel_rfl) (by kernel_rfl) (by kernel_rfl) (by exact fun _ _ _ h => h) (Or.inl ⟨by rfl, ?_⟩) hH ?_
      rotate_left
      · (intro wS hS; clear hS; go_simp; try rfl)
      try simp only [Act.put, List.setIfInBounds_toArray, List.set_cons_zero, List.set_cons_succ]
      refine wpAnyH_take (i := 16) (v := ?_) (by simp only [List.getElem?_toArray, List.getElem?_cons_succ, List.getElem?_cons_zero]; rfl) (by kernel_rfl) (by kernel_rfl) (by kernel_rfl) (by exact fun _ _ _ h => h) (Or.inl ⟨by rfl, ?_⟩) hH ?_
      rotate_left
      · (intro wS hS; clear hS; go_simp; try rfl)
      try simp only [Act.put, List.setIfInBounds_toArray, List.set_cons_zero, List.set_cons_succ]
      refine wpAnyH_take (i := 17) (v := ?_) (by simp only [List.getElem?_toArray, List.getElem?_cons_succ, List.getElem?_cons_zero]; rfl) (by kernel_rfl) (by kernel_rfl) (by kernel_rfl) (by exact fun _ _ _ h => h) (Or.inl ⟨by rfl, ?_⟩) hH ?_
      rotate_left
      · (intro wS hS; (try dsimp only at hS); obtain ⟨k1, k2, k3, k4, k5, k6, k7, k8, k9⟩ := nineF KA.out KX.out KY.out hS; go_simp; try rfl)
      try simp only [Act.put, List.setIfInBounds_toArray, List.set_cons_zero, List.set_cons_succ]
      refine wpAnyH_take (i := 18) (v := ?_) (by simp only [List.getElem?_toArray, List.getElem?_cons_succ, List.getElem?_cons_zero]; rfl) (by kernel_rfl) (by kernel_rfl) (by kernel_rfl) (by exact fun _ _ _ h => h) (Or.inl ⟨by rfl, ?_⟩) hH ?_
      rotate_left
      · (intro wS hS; (try dsimp only at hS); obtain ⟨k1, k2, k3, k4, k5, k6, k7, k8, k9⟩ := nineF KA.out KX.out KY.out hS; go_simp; try rfl)
      try simp only [Act.put, List.setIfInBounds_toArray, List.set_cons_zero, List.set_cons_succ]
      refine wpAnyH_take (i := 19) (v := ?_) (by simp only [List.getElem?_toArray, List.getElem?_cons_succ, List.getElem?_cons_zero]; rfl) (by kernel_rfl) (by kernel_rfl) (by kernel_rfl) (by exact fun _ _ _ h => h) (Or.inl ⟨by rfl, ?_⟩) hH ?_
      rotate_left
      · (intro wS hS; (try dsimp only at hS); obtain ⟨k1, k2, k3, k4, k5, k6, k7, k8, k9⟩ := nineF KA.out KX.out KY.out hS; go_simp; try rfl)
      try simp only [Act.put, List.setIfInBounds_toArray, List.set_cons_zero, List.set_cons_succ]
      refine wpAnyH_ready (rs := [20]) (by kernel_rfl) (by simp) ?_
      refine AllReadyH.cons (by simp only [List.getElem?_toArray, List.getElem?_cons_succ, List.getElem?_cons_zero]; rfl) (fun K hK => ?_) AllReadyH.nil
      go_simp
      (with_reducible refine (lUnitX r _).mono ?_)
      rintro e v20 ⟨qU20, qcU20, rfl, own, hb20⟩
      rw [HmI.out] at own ⊢
      have OU := Lib.hid (own.le (Nat.zero_le _))
      have nU := own.small
      clear own
      try dsimp only
      refine hK.out _ _ ?_ (fun hH2 => ?_)
      · exact hH.trans (hb20.mono hH.size)
      clear hK K hH
      have hH := hH2
      clear hH2
      try simp only [Act.put, List.setIfInBounds_toArray, List.set_cons_zero, List.set_cons_succ]
      refine wpAnyH_ready (rs := [21]) (by kernel_rfl) (by simp) ?_
      refine AllReadyH.cons (by simp only [List.getElem?_toArray, List.getElem?_cons_succ, List.getElem?_cons_zero]; rfl) (fun K hK => ?_) AllReadyH.nil
      go_simp
      (with_reducible refine (sSameE mI mI qY qU20 qcY qcU20 _ rfl (OY.out.keep hH).rd OU.out.rd nY).mono ?_)
      rintro e v21 ⟨rfl, hb21⟩
      try dsimp only
      refine hK.out _ _ ?_ (fun hH2 => ?_)
      · exact hH.trans (hb21.mono hH.size)
      clear hK K hH
      have hH := hH2
      clear hH2
      try simp only [Act.put, List.setIfInBounds_toArray, List.set_cons_zero, List.set_cons_succ]
      refine wpAnyH_take (i := 22) (v := ?_) (by simp only [List.getElem?_toArray, List.getElem?_cons_succ, List.getElem?_cons_zero]; rfl) (by kernel_rfl) (by kernel_rfl) (by kernel_rfl) (by exact fun _ _ _ h => h) (Or.inl ⟨by rfl, ?_⟩) hH ?_
      rotate_left
      · (intro wS hS; clear hS; go_simp; try rfl)
      try simp only [Act.put, List.setIfInBounds_toArray, List.set_cons_zero, List.set_cons_succ]
      refine wpAnyH_take (i := 23) (v := ?_) (by simp only [List.getElem?_toArray, List.getElem?_cons_succ, List.getElem?_cons_zero]; rfl) (by kernel_rfl) (by kernel_rfl) (by kernel_rfl) (by exact fun _ _ _ h => h) (Or.inl ⟨by rfl, ?_⟩) hH ?_
      rotate_left
      · (intro wS hS; clear hS; go_simp; try rfl)
      try simp only [Act.put, List.setIfInBounds_toArray, List.set_cons_zero, List.set_cons_succ]
      refine wpAnyH_done (by kernel_rfl) ?_ _
      go_wp2_with (fail)
      go_ret
      exact ⟨rfl, B.out.trans (hH.mono B.out.size)⟩
    rw [hf3]
    obtain ⟨cc5_00, cc5_01, cc5_02, -, -, -⟩ := KA.out.all
    have ll5_0 := KA.out.lt
    obtain ⟨cc5_10, cc5_11, cc5_12, -, -, -⟩ := KJ.out.all
    have ll5_1 := KJ.out.lt
    obtain ⟨cc5_20, cc5_21, cc5_22, -, -, -⟩ := KT.out.all
    have ll5_2 := KT.out.lt
    go_wp2_with (fail)
    obtain ⟨mU, hmU⟩ : ∃ m, idM r = m := ⟨_, rfl⟩
    have HmU := Lib.hid hmU
    clear hmU
    refine (lUnitX r _).mono ?_
    rintro e w6 ⟨qU, qcU, rfl, own, hb⟩
    rw [HmU.out] at own ⊢
    have nU := own.small
    have OA := Lib.hid ((OA.out.old _).keep hb)
    have KA := Lib.hid ((KA.out.old _).step hb)
    have OJ := Lib.hid ((OJ.out.old _).keep hb)
    have KJ := Lib.hid ((KJ.out.old _).step hb)
    have OT := Lib.hid ((OT.out.old _).keep hb)
    have KT := Lib.hid ((KT.out.old _).step hb)
    have OP := Lib.hid ((OP.out.old _).keep hb)
    have KP : Hid (Blk3 w6 w5.heap.size 27 (.int .i64 (mP.r)) (.int .i64 (mP.c)) (.slice qP mP.zs.length qcP)) := (Blk3.at_ _ _ _ _ rfl).step hb
    have B := Lib.hid (stepB (B.out.alloc B.out.size _) hb)
    clear hb
    have OU := Lib.hid (own.le (Nat.zero_le _))
    clear own
    obtain ⟨cc6_00, cc6_01, cc6_02, -, -, -⟩ := KA.out.all
    have ll6_0 := KA.out.lt
    obtain ⟨cc6_10, cc6_11, cc6_12, -, -, -⟩ := KJ.out.all
    have ll6_1 := KJ.out.lt
    obtain ⟨cc6_20, cc6_21, cc6_22, -, -, -⟩ := KT.out.all
    have ll6_2 := KT.out.lt
    obtain ⟨cc6_30, cc6_31, cc6_32, -, -, -⟩ := KP.out.all
    have ll6_3 := KP.out.lt
    go_wp2_with (fail)
    obtain ⟨mW, hmW⟩ : ∃ m, scaleM mU.r mU.c mU.zs d = m := ⟨_, rfl⟩
    have HmW := Lib.hid hmW
    clear hmW
    refine (iScale mU.r mU.c qU qcU mU.zs d _ OU.out.rd nU).mono ?_
    rintro e w7 ⟨vW, rfl, own, hb⟩
    rw [HmW.out] at own ⊢
    obtain ⟨qW, qcW, rfl, -, -⟩ := own.form
    have nW := own.small
    have OA := Lib.hid (OA.out.keep hb)
    have KA := Lib.hid (KA.out.step hb)
    have OJ := Lib.hid (OJ.out.keep hb)
    have KJ := Lib.hid (KJ.out.step hb)
    have OT := Lib.hid (OT.out.keep hb)
    have KT := Lib.hid (KT.out.step hb)
    have OP := Lib.hid (OP.out.keep hb)
    have KP := Lib.hid (KP.out.step hb)
    have OU := Lib.hid (OU.out.keep hb)
    have B := Lib.hid (stepB B.out hb)
    clear hb
    have OW := Lib.hid (own.le (Nat.zero_le _))
    clear own
    obtain ⟨cc7_00, cc7_01, cc7_02, -, -, -⟩ := KA.out.all
    have ll7_0 := KA.out.lt
    obtain ⟨cc7_10, cc7_11, cc7_12, -, -, -⟩ := KJ.out.all
    have ll7_1 := KJ.out.lt
    obtain ⟨cc7_20, cc7_21, cc7_22, -, -, -⟩ := KT.out.all
    have ll7_2 := KT.out.lt
    obtain ⟨cc7_30, cc7_31, cc7_32, -, -, -⟩ := KP.out.all
    have ll7_3 := KP.out.lt
    rcases Bool.eq_false_or_eq_true mW.ok with hf4 | hf4
    rotate_left
    · rw [hf4]
      obtain ⟨cc8_00, cc8_01, cc8_02, -, -, -⟩ := KA.out.all
      have ll8_0 := KA.out.lt
      obtain ⟨cc8_10, cc8_11, cc8_12, -, -, -⟩ := KJ.out.all
      have ll8_1 := KJ.out.lt
      obtain ⟨cc8_20, cc8_21, cc8_22, -, -, -⟩ := KT.out.all
      have ll8_2 := KT.out.lt
      obtain ⟨cc8_30, cc8_31, cc8_32, -, -, -⟩ := KP.out.all
      have ll8_3 := KP.out.lt
      go_wp2_with (fail)
      obtain ⟨mV, hmV⟩ : ∃ m, invM r c xs = m := ⟨_, rfl⟩
      have HmV := Lib.hid hmV
      clear hmV
      refine (iInv r c q1 qc1 xs _ (OA.out.old _).rd n1).mono ?_
      rintro e w8 ⟨vV, rfl, own, hb⟩
      rw [HmV.out] at own ⊢
      obtain ⟨qV, qcV, rfl, -, -⟩ := own.form
      have nV := own.small
      have OA := Lib.hid ((OA.out.old _).keep hb)
      have KA := Lib.hid ((KA.out.old _).step hb)
      have OJ := Lib.hid ((OJ.out.old _).keep hb)
      have KJ := Lib.hid ((KJ.out.old _).step hb)
      have OT := Lib.hid ((OT.out.old _).keep hb)
      have KT := Lib.hid ((KT.out.old _).step hb)
      have OP := Lib.hid ((OP.out.old _).keep hb)
      have KP := Lib.hid ((KP.out.old _).step hb)
      have OU := Lib.hid ((OU.out.old _).keep hb)
      have OW := Lib.hid ((OW.out.old _).keep hb)
      have KW : Hid (Blk3 w8 w7.heap.size 27 (.int .i64 (mW.r)) (.int .i64 (mW.c)) (.slice qW mW.zs.length qcW)) := (Blk3.at_ _ _ _ _ rfl).step hb
      have B := Lib.hid (stepB (B.out.alloc B.out.size _) hb)
      clear hb
      have OV := Lib.hid (own.le (Nat.zero_le _))
      clear own
      obtain ⟨cc9_00, cc9_01, cc9_02, -, -, -⟩ := KA.out.all
      have ll9_0 := KA.out.lt
      obtain ⟨cc9_10, cc9_11, cc9_12, -, -, -⟩ := KJ.out.all
      have ll9_1 := KJ.out.lt
      obtain ⟨cc9_20, cc9_21, cc9_22, -, -, -⟩ := KT.out.all
      have ll9_2 := KT.out.lt
      obtain ⟨cc9_30, cc9_31, cc9_32, -, -, -⟩ := KP.out.all
      have ll9_3 := KP.out.lt
      obtain ⟨cc9_40, cc9_41, cc9_42, -, -, -⟩ := KW.out.all
      have ll9_4 := KW.out.lt
      rcases Bool.eq_false_or_eq_true mV.ok with hg | hg
      rotate_left
      · rw [hg]
        have zV := inv_no HmV.out hg
        have lV : mV.zs.length = 0 := by rw [zV]; rfl
        have LV := Lib.hid lV
        clear zV lV
        obtain ⟨cc10_00, cc10_01, cc10_02, -, -, -⟩ := KA.out.all
        have ll10_0 := KA.out.lt
        obtain ⟨cc10_10, cc10_11, cc10_12, -, -, -⟩ := KJ.out.all
        have ll10_1 := KJ.out.lt
        obtain ⟨cc10_20, cc10_21, cc10_22, -, -, -⟩ := KT.out.all
        have ll10_2 := KT.out.lt
        obtain ⟨cc10_30, cc10_31, cc10_32, -, -, -⟩ := KP.out.all
        have ll10_3 := KP.out.lt
        obtain ⟨cc10_40, cc10_41, cc10_42, -, -, -⟩ := KW.out.all
        have ll10_4 := KW.out.lt
        go_wp2_with (fail)
        go_ret
        exact ⟨by rw [LV.out]; rfl, (B.out.alloc B.out.size _)⟩
      rw [hg]
      obtain ⟨hd, e1, e2, hI⟩ := inv_law HmV.out hg Hd.out
      obtain ⟨mI, hmI⟩ : ∃ m, idM r = m := ⟨_, rfl⟩
      have HmI := Lib.hid hmI
      clear hmI
      rw [HmI.out] at e1 e2 hI
      have E1 := Lib.hid e1
      have E2 := Lib.hid e2
      have HD := Lib.hid hd
      have HI := Lib.hid hI
      clear e1 e2 hd hI
      obtain ⟨cc10_00, cc10_01, cc10_02, -, -, -⟩ := KA.out.all
      have ll10_0 := KA.out.lt
      obtain ⟨cc10_10, cc10_11, cc10_12, -, -, -⟩ := KJ.out.all
      have ll10_1 := KJ.out.lt
      obtain ⟨cc10_20, cc10_21, cc10_22, -, -, -⟩ := KT.out.all
      have ll10_2 := KT.out.lt
      obtain ⟨cc10_30, cc10_31, cc10_32, -, -, -⟩ := KP.out.all
      have ll10_3 := KP.out.lt
      obtain ⟨cc10_40, cc10_41, cc10_42, -, -, -⟩ := KW.out.all
      have ll10_4 := KW.out.lt
      go_wp2_with (fail)
      refine (iMul r c mV.r mV.c q1 qV qc1 qcV xs mV.zs _ (OA.out.old _).rd (OV.out.old _).rd n1 nV).mono ?_
      rintro e w9 ⟨vX, rfl, own, hb⟩
      rw [E1.out] at own ⊢
      obtain ⟨qX, qcX, rfl, -, -⟩ := own.form
      have nX := own.small
      have OA := Lib.hid ((OA.out.old _).keep hb)
      have KA := Lib.hid ((KA.out.old _).step hb)
      have OJ := Lib.hid ((OJ.out.old _).keep hb)
      have KJ := Lib.hid ((KJ.out.old _).step hb)
      have OT := Lib.hid ((OT.out.old _).keep hb)
      have KT := Lib.hid ((KT.out.old _).step hb)
      have OP := Lib.hid ((OP.out.old _).keep hb)
      have KP := Lib.hid ((KP.out.old _).step hb)
      have OU := Lib.hid ((OU.out.old _).keep hb)
      have OW := Lib.hid ((OW.out.old _).keep hb)
      have KW := Lib.hid ((KW.out.old _).step hb)
      have OV := Lib.hid ((OV.out.old _).keep hb)
      have KV : Hid (Blk3 w9 w8.heap.size 27 (.int .i64 (mV.r)) (.int .i64 (mV.c)) (.slice qV mV.zs.length qcV)) := (Blk3.at_ _ _ _ _ rfl).step hb
      have B := Lib.hid (stepB (B.out.alloc B.out.size _) hb)
      clear hb
      have OX := Lib.hid (own.le (Nat.zero_le _))
      clear own
      obtain ⟨cc11_00, cc11_01, cc11_02, -, -, -⟩ := KA.out.all
      have ll11_0 := KA.out.lt
      obtain ⟨cc11_10, cc11_11, cc11_12, -, -, -⟩ := KJ.out.all
      have ll11_1 := KJ.out.lt
      obtain ⟨cc11_20, cc11_21, cc11_22, -, -, -⟩ := KT.out.all
      have ll11_2 := KT.out.lt
      obtain ⟨cc11_30, cc11_31, cc11_32, -, -, -⟩ := KP.out.all
      have ll11_3 := KP.out.lt
      obtain ⟨cc11_40, cc11_41, cc11_42, -, -, -⟩ := KW.out.all
      have ll11_4 := KW.out.lt
      obtain ⟨cc11_50, cc11_51, cc11_52, -, -, -⟩ := KV.out.all
      have ll11_5 := KV.out.lt
      go_wp2_with (fail)
      refine (iMul mV.r mV.c r c qV q1 qcV qc1 mV.zs xs _ (OV.out.old _).rd (OA.out.old _).rd nV n1).mono ?_
      rintro e w10 ⟨vY, rfl, own, hb⟩
      rw [E2.out] at own ⊢
      obtain ⟨qY, qcY, rfl, -, -⟩ := own.form
      have nY := own.small
      have OA := Lib.hid ((OA.out.old _).keep hb)
      have KA := Lib.hid ((KA.out.old _).step hb)
      have OJ := Lib.hid ((OJ.out.old _).keep hb)
      have KJ := Lib.hid ((KJ.out.old _).step hb)
      have OT := Lib.hid ((OT.out.old _).keep hb)
      have KT := Lib.hid ((KT.out.old _).step hb)
      have OP := Lib.hid ((OP.out.old _).keep hb)
      have KP := Lib.hid ((KP.out.old _).step hb)
      have OU := Lib.hid ((OU.out.old _).keep hb)
      have OW := Lib.hid ((OW.out.old _).keep hb)
      have KW := Lib.hid ((KW.out.old _).step hb)
      have OV := Lib.hid ((OV.out.old _).keep hb)
      have KV := Lib.hid ((KV.out.old _).step hb)
      have OX := Lib.hid ((OX.out.old _).keep hb)
      have KX : Hid (Blk3 w10 w9.heap.size 27 (.int .i64 (mI.r)) (.int .i64 (mI.c)) (.slice qX mI.zs.length qcX)) := (Blk3.at_ _ _ _ _ rfl).step hb
      have B := Lib.hid (stepB (B.out.alloc B.out.size _) hb)
      clear hb
      have OY := Lib.hid (own.le (Nat.zero_le _))
      clear own
      obtain ⟨cc12_00, cc12_01, cc12_02, -, -, -⟩ := KA.out.all
      have ll12_0 := KA.out.lt
      obtain ⟨cc12_10, cc12_11, cc12_12, -, -, -⟩ := KJ.out.all
      have ll12_1 := KJ.out.lt
      obtain ⟨cc12_20, cc12_21, cc12_22, -, -, -⟩ := KT.out.all
      have ll12_2 := KT.out.lt
      obtain ⟨cc12_30, cc12_31, cc12_32, -, -, -⟩ := KP.out.all
      have ll12_3 := KP.out.lt
      obtain ⟨cc12_40, cc12_41, cc12_42, -, -, -⟩ := KW.out.all
      have ll12_4 := KW.out.lt
      obtain ⟨cc12_50, cc12_51, cc12_52, -, -, -⟩ := KV.out.all
      have ll12_5 := KV.out.lt
      obtain ⟨cc12_60, cc12_61, cc12_62, -, -, -⟩ := KX.out.all
      have ll12_6 := KX.out.lt
      rw [HI.out]
      go_upto_region 19 with (fail)
      obtain ⟨wz10, hw⟩ : ∃ x, w10.alloc (.cells #[.int .i64 mI.r, .int .i64 mI.c, .slice qY mI.zs.length qcY] 27) = x := ⟨_, rfl⟩
      have OA := Lib.hid (OA.out.old (.cells #[.int .i64 mI.r, .int .i64 mI.c, .slice qY mI.zs.length qcY] 27))
      have KA := Lib.hid (KA.out.old (.cells #[.int .i64 mI.r, .int .i64 mI.c, .slice qY mI.zs.length qcY] 27))
      have OJ := Lib.hid (OJ.out.old (.cells #[.int .i64 mI.r, .int .i64 mI.c, .slice qY mI.zs.length qcY] 27))
      have KJ := Lib.hid (KJ.out.old (.cells #[.int .i64 mI.r, .int .i64 mI.c, .slice qY mI.zs.length qcY] 27))
      have OT := Lib.hid (OT.out.old (.cells #[.int .i64 mI.r, .int .i64 mI.c, .slice qY mI.zs.length qcY] 27))
      have KT := Lib.hid (KT.out.old (.cells #[.int .i64 mI.r, .int .i64 mI.c, .slice qY mI.zs.length qcY] 27))
      have OP := Lib.hid (OP.out.old (.cells #[.int .i64 mI.r, .int .i64 mI.c, .slice qY mI.zs.length qcY] 27))
      have KP := Lib.hid (KP.out.old (.cells #[.int .i64 mI.r, .int .i64 mI.c, .slice qY mI.zs.length qcY] 27))
      have OU := Lib.hid (OU.out.old (.cells #[.int .i64 mI.r, .int .i64 mI.c, .slice qY mI.zs.length qcY] 27))
      have OW := Lib.hid (OW.out.old (.cells #[.int .i64 mI.r, .int .i64 mI.c, .slice qY mI.zs.length qcY] 27))
      have KW := Lib.hid (KW.out.old (.cells #[.int .i64 mI.r, .int .i64 mI.c, .slice qY mI.zs.length qcY] 27))
      have OV := Lib.hid (OV.out.old (.cells #[.int .i64 mI.r, .int .i64 mI.c, .slice qY mI.zs.length qcY] 27))
      have KV := Lib.hid (KV.out.old (.cells #[.int .i64 mI.r, .int .i64 mI.c, .slice qY mI.zs.length qcY] 27))
      have OX := Lib.hid (OX.out.old (.cells #[.int .i64 mI.r, .int .i64 mI.c, .slice qY mI.zs.length qcY] 27))
      have KX := Lib.hid (KX.out.old (.cells #[.int .i64 mI.r, .int .i64 mI.c, .slice qY mI.zs.length qcY] 27))
      have OY := Lib.hid (OY.out.old (.cells #[.int .i64 mI.r, .int .i64 mI.c, .slice qY mI.zs.length qcY] 27))
      have KY : Hid (Blk3 (w10.alloc (.cells #[.int .i64 mI.r, .int .i64 mI.c, .slice qY mI.zs.length qcY] 27)) w10.heap.size 27 (.int .i64 mI.r) (.int .i64 mI.c) (.slice qY mI.zs.length qcY)) := Blk3.at_ _ _ _ _ rfl
      have B := Lib.hid (B.out.alloc B.out.size (.cells #[.int .i64 mI.r, .int .i64 mI.c, .slice qY mI.zs.length qcY] 27))
      rw [hw] at OA KA OJ KJ OT KT OP KP OU OW KW OV KV OX KX OY B KY ⊢
      clear hw
      refine wp_region_held_drew (S := fun w' => Below wz10.heap.size wz10 w') (by kernel_rfl) (Below.refl _ _).drew (fun hH => ?_)
      refine wpAnyH_take (i := 0) (v := ?_) (by simp only [List.getElem?_toArray, List.getElem?_cons_zero]; rfl) (by kernel_rfl) (by kernel_rfl) (by kernel_rfl) (by exact fun _ _ _ h => h) (Or.inl ⟨by rfl, ?_⟩) hH ?_
      rotate_left
      · (intro wS hS; clear hS; go_simp; try rfl)
      try simp only [Act.put, List.setIfInBounds_toArray, List.set_cons_zero, List.set_cons_succ]
      refine wpAnyH_take (i := 1) (v := ?_) (by simp only [List.getElem?_toArray, List.getElem?_cons_succ, List.getElem?_cons_zero]; rfl) (by kernel_rfl) (by kernel_rfl) (by kernel_rfl) (by exact fun _ _ _ h => h) (Or.inl ⟨by rfl, ?_⟩) hH ?_
      rotate_left
      · (intro wS hS; clear hS; go_simp; try rfl)
      try simp only [Act.put, List.setIfInBounds_toArray, List.set_cons_zero, List.set_cons_succ]
      refine wpAnyH_take (i := 2) (v := ?_) (by simp only [List.getElem?_toArray, List.getElem?_cons_succ, List.getElem?_cons_zero]; rfl) (by kernel_rfl) (by kernel_rfl) (by kernel_rfl) (by exact fun _ _ _ h => h) (Or.inl ⟨by rfl, ?_⟩) hH ?_
      rotate_left
      · (intro wS hS; clear hS; go_simp; try rfl)
      try simp only [Act.put, List.setIfInBounds_toArray, List.set_cons_zero, List.set_cons_succ]
      refine wpAnyH_take (i := 3) (v := ?_) (by simp only [List.getElem?_toArray, List.getElem?_cons_succ, List.getElem?_cons_zero]; rfl) (by kernel_rfl) (by kernel_rfl) (by kernel_rfl) (by exact fun _ _ _ h => h) (Or.inl ⟨by rfl, ?_⟩) hH ?_
      rotate_left
      · (intro wS hS; clear hS; go_simp; try rfl)
      try simp only [Act.put, List.setIfInBounds_toArray, List.set_cons_zero, List.set_cons_succ]
      refine wpAnyH_take (i := 4) (v := ?_) (by simp only [List.getElem?_toArray, List.getElem?_cons_succ, List.getElem?_cons_zero]; rfl) (by kernel_rfl) (by kernel_rfl) (by kernel_rfl) (by exact fun _ _ _ h => h) (Or.inl ⟨by rfl, ?_⟩) hH ?_
      rotate_left
      · (intro wS hS; clear hS; go_simp; try rfl)
      try simp only [Act.put, List.setIfInBounds_toArray, List.set_cons_zero, List.set_cons_succ]
      refine wpAnyH_take (i := 5) (v := ?_) (by simp only [List.getElem?_toArray, List.getElem?_cons_succ, List.getElem?_cons_zero]; rfl) (by kernel_rfl) (by kernel_rfl) (by kernel_rfl) (by exact fun _ _ _ h => h) (Or.inl ⟨by rfl, ?_⟩) hH ?_
      rotate_left
      · (intro wS hS; clear hS; go_simp; try rfl)
      try simp only [Act.put, List.setIfInBounds_toArray, List.set_cons_zero, List.set_cons_succ]
      refine wpAnyH_ready (rs := [6]) (by kernel_rfl) (by simp) ?_
      refine AllReadyH.cons (by simp only [List.getElem?_toArray, List.getElem?_cons_succ, List.getElem?_cons_zero]; rfl) (fun K hK => ?_) AllReadyH.nil
      go_simp
      (with_reducible refine (lAbs d _ HD.out).mono ?_)
      rintro e v6 ⟨rfl, hb6⟩
      try dsimp only
      refine hK.out _ _ ?_ (fun hH2 => ?_)
      · exact hH.trans (hb6.mono hH.size)
      clear hK K hH
      have hH := hH2
      clear hH2
      try simp only [Act.put, List.setIfInBounds_toArray, List.set_cons_zero, List.set_cons_succ]
      refine wpAnyH_take (i := 7) (v := ?_) (by simp only [List.getElem?_toArray, List.getElem?_cons_succ, List.getElem?_cons_zero]; rfl) (by kernel_rfl) (by kernel_rfl) (by kernel_rfl) (by exact fun _ _ _ h => h) (Or.inl ⟨by rfl, ?_⟩) hH ?_
      rotate_left
      · (intro wS hS; clear hS; go_simp; try rfl)
      try simp only [Act.put, List.setIfInBounds_toArray, List.set_cons_zero, List.set_cons_succ]
      refine wpAnyH_take (i := 8) (v := ?_) (by simp only [List.getElem?_toArray, List.getElem?_cons_succ, List.getElem?_cons_zero]; rfl) (by kernel_rfl) (by kernel_rfl) (by kernel_rfl) (by exact fun _ _ _ h => h) (Or.inl ⟨by rfl, ?_⟩) hH ?_
      rotate_left
      · (intro wS hS; clear hS; go_simp; try rfl)
      try simp only [Act.put, List.setIfInBounds_toArray, List.set_cons_zero, List.set_cons_succ]
      refine wpAnyH_take (i := 9) (v := ?_) (by simp only [List.getElem?_toArray, List.getElem?_cons_succ, List.getElem?_cons_zero]; rfl) (by kernel_rfl) (by kernel_rfl) (by kernel_rfl) (by exact fun _ _ _ h => h) (Or.inl ⟨by rfl, ?_⟩) hH ?_
      rotate_left
      · (intro wS hS; clear hS; go_simp; try rfl)
      try simp only [Act.put, List.setIfInBounds_toArray, List.set_cons_zero, List.set_cons_succ]
      refine wpAnyH_take (i := 10) (v := ?_) (by simp only [List.getElem?_toArray, List.getElem?_cons_succ, List.getElem?_cons_zero]; rfl) (by kernel_rfl) (by kernel_rfl) (by kernel_rfl) (by exact fun _ _ _ h => h) (Or.inl ⟨by rfl, ?_⟩) hH ?_
      rotate_left
      · (intro wS hS; (try dsimp only at hS); obtain ⟨k1, k2, k3, k4, k5, k6, k7, k8, k9⟩ := nineF KA.out KX.out KY.out hS; go_simp; try rfl)
      try simp only [Act.put, List.setIfInBounds_toArray, List.set_cons_zero, List.set_cons_succ]
      refine wpAnyH_take (i := 11) (v := ?_) (by simp only [List.getElem?_toArray, List.getElem?_cons_succ, List.getElem?_cons_zero]; rfl) (by kernel_rfl) (by kernel_rfl) (by kernel_rfl) (by exact fun _ _ _ h => h) (Or.inl ⟨by rfl, ?_⟩) hH ?_
      rotate_left
      · (intro wS hS; (try dsimp only at hS); obtain ⟨k1, k2, k3, k4, k5, k6, k7, k8, k9⟩ := nineF KA.out KX.out KY.out hS; go_simp; try rfl)
      try simp only [Act.put, List.setIfInBounds_toArray, List.set_cons_zero, List.set_cons_succ]
      refine wpAnyH_take (i := 12) (v := ?_) (by simp only [List.getElem?_toArray, List.getElem?_cons_succ, List.getElem?_cons_zero]; rfl) (by kernel_rfl) (by kernel_rfl) (by kernel_rfl) (by exact fun _ _ _ h => h) (Or.inl ⟨by rfl, ?_⟩) hH ?_
      rotate_left
      · (intro wS hS; (try dsimp only at hS); obtain ⟨k1, k2, k3, k4, k5, k6, k7, k8, k9⟩ := nineF KA.out KX.out KY.out hS; go_simp; try rfl)
      try simp only [Act.put, List.setIfInBounds_toArray, List.set_cons_zero, List.set_cons_succ]
      refine wpAnyH_ready (rs := [13]) (by kernel_rfl) (by simp) ?_
      refine AllReadyH.cons (by simp only [List.getElem?_toArray, List.getElem?_cons_succ, List.getElem?_cons_zero]; rfl) (fun K hK => ?_) AllReadyH.nil
      go_simp
      (with_reducible refine (lUnitX r _).mono ?_)
      rintro e v13 ⟨qU13, qcU13, rfl, own, hb13⟩
      rw [HmI.out] at own ⊢
      have OU := Lib.hid (own.le (Nat.zero_le _))
      have nU := own.small
      clear own
      try dsimp only
      refine hK.out _ _ ?_ (fun hH2 => ?_)
      · exact hH.trans (hb13.mono hH.size)
      clear hK K hH
      have hH := hH2
      clear hH2
      try simp only [Act.put, List.setIfInBounds_toArray, List.set_cons_zero, List.set_cons_succ]
      refine wpAnyH_ready (rs := [14]) (by kernel_rfl) (by simp) ?_
      refine AllReadyH.cons (by simp only [List.getElem?_toArray, List.getElem?_cons_succ, List.getElem?_cons_zero]; rfl) (fun K hK => ?_) AllReadyH.nil
      go_simp
      (with_reducible refine (iSameE mI mI qX qU13 qcX qcU13 _ rfl (OX.out.keep hH).rd OU.out.rd nX nU).mono ?_)
      rintro e v14 ⟨rfl, hb14⟩
      try dsimp only
      refine hK.out _ _ ?_ (fun hH2 => ?_)
      · exact hH.trans (hb14.mono hH.size)
      clear hK K hH
      have hH := hH2
      clear hH2
      try simp only [Act.put, List.setIfInBounds_toArray, List.set_cons_zero, List.set_cons_succ]
      refine wpAnyH_take (i := 15) (v := ?_) (by simp only [List.getElem?_toArray, List.getElem?_cons_succ, List.getElem?_cons_zero]; rfl) (by kernel_rfl) (by kernel_rfl) (by kernel_rfl) (by exact fun _ _ _ h => h) (Or.inl ⟨by rfl, ?_⟩) hH ?_
      rotate_left
      · (intro wS hS; clear hS; go_simp; try rfl)
      try simp only [Act.put, List.setIfInBounds_toArray, List.set_cons_zero, List.set_cons_succ]
      refine wpAnyH_take (i := 16) (v := ?_) (by simp only [List.getElem?_toArray, List.getElem?_cons_succ, List.getElem?_cons_zero]; rfl) (by kernel_rfl) (by kernel_rfl) (by kernel_rfl) (by exact fun _ _ _ h => h) (Or.inl ⟨by rfl, ?_⟩) hH ?_
      rotate_left
      · (intro wS hS; clear hS; go_simp; try rfl)
      try simp only [Act.put, List.setIfInBounds_toArray, List.set_cons_zero, List.set_cons_succ]
      refine wpAnyH_take (i := 17) (v := ?_) (by simp only [List.getElem?_toArray, List.getElem?_cons_succ, List.getElem?_cons_zero]; rfl) (by kernel_rfl) (by kernel_rfl) (by kernel_rfl) (by exact fun _ _ _ h => h) (Or.inl ⟨by rfl, ?_⟩) hH ?_
      rotate_left
      · (intro wS hS; (try dsimp only at hS); obtain ⟨k1, k2, k3, k4, k5, k6, k7, k8, k9⟩ := nineF KA.out KX.out KY.out hS; go_simp; try rfl)
      try simp only [Act.put, List.setIfInBounds_toArray, List.set_cons_zero, List.set_cons_succ]
      refine wpAnyH_take (i := 18) (v := ?_) (by simp only [List.getElem?_toArray, List.getElem?_cons_succ, List.getElem?_cons_zero]; rfl) (by kernel_rfl) (by kernel_rfl) (by kernel_rfl) (by exact fun _ _ _ h => h) (Or.inl ⟨by rfl, ?_⟩) hH ?_
      rotate_left
      · (intro wS hS; (try dsimp only at hS); obtain ⟨k1, k2, k3, k4, k5, k6, k7, k8, k9⟩ := nineF KA.out KX.out KY.out hS; go_simp; try rfl)
      try simp only [Act.put, List.setIfInBounds_toArray, List.set_cons_zero, List.set_cons_succ]
      refine wpAnyH_take (i := 19) (v := ?_) (by simp only [List.getElem?_toArray, List.getElem?_cons_succ, List.getElem?_cons_zero]; rfl) (by kernel_rfl) (by kernel_rfl) (by kernel_rfl) (by exact fun _ _ _ h => h) (Or.inl ⟨by rfl, ?_⟩) hH ?_
      rotate_left
      · (intro wS hS; (try dsimp only at hS); obtain ⟨k1, k2, k3, k4, k5, k6, k7, k8, k9⟩ := nineF KA.out KX.out KY.out hS; go_simp; try rfl)
      try simp only [Act.put, List.setIfInBounds_toArray, List.set_cons_zero, List.set_cons_succ]
      refine wpAnyH_ready (rs := [20]) (by kernel_rfl) (by simp) ?_
      refine AllReadyH.cons (by simp only [List.getElem?_toArray, List.getElem?_cons_succ, List.getElem?_cons_zero]; rfl) (fun K hK => ?_) AllReadyH.nil
      go_simp
      (with_reducible refine (lUnitX r _).mono ?_)
      rintro e v20 ⟨qU20, qcU20, rfl, own, hb20⟩
      rw [HmI.out] at own ⊢
      have OU := Lib.hid (own.le (Nat.zero_le _))
      have nU := own.small
      clear own
      try dsimp only
      refine hK.out _ _ ?_ (fun hH2 => ?_)
      · exact hH.trans (hb20.mono hH.size)
      clear hK K hH
      have hH := hH2
      clear hH2
      try simp only [Act.put, List.setIfInBounds_toArray, List.set_cons_zero, List.set_cons_succ]
      refine wpAnyH_ready (rs := [21]) (by kernel_rfl) (by simp) ?_
      refine AllReadyH.cons (by simp only [List.getElem?_toArray, List.getElem?_cons_succ, List.getElem?_cons_zero]; rfl) (fun K hK => ?_) AllReadyH.nil
      go_simp
      (with_reducible refine (sSameE mI mI qY qU20 qcY qcU20 _ rfl (OY.out.keep hH).rd OU.out.rd nY).mono ?_)
      rintro e v21 ⟨rfl, hb21⟩
      try dsimp only
      refine hK.out _ _ ?_ (fun hH2 => ?_)
      · exact hH.trans (hb21.mono hH.size)
      clear hK K hH
      have hH := hH2
      clear hH2
      try simp only [Act.put, List.setIfInBounds_toArray, List.set_cons_zero, List.set_cons_succ]
      refine wpAnyH_take (i := 22) (v := ?_) (by simp only [List.getElem?_toArray, List.getElem?_cons_succ, List.getElem?_cons_zero]; rfl) (by kernel_rfl) (by kernel_rfl) (by kernel_rfl) (by exact fun _ _ _ h => h) (Or.inl ⟨by rfl, ?_⟩) hH ?_
      rotate_left
      · (intro wS hS; clear hS; go_simp; try rfl)
      try simp only [Act.put, List.setIfInBounds_toArray, List.set_cons_zero, List.set_cons_succ]
      refine wpAnyH_take (i := 23) (v := ?_) (by simp only [List.getElem?_toArray, List.getElem?_cons_succ, List.getElem?_cons_zero]; rfl) (by kernel_rfl) (by kernel_rfl) (by kernel_rfl) (by exact fun _ _ _ h => h) (Or.inl ⟨by rfl, ?_⟩) hH ?_
      rotate_left
      · (intro wS hS; clear hS; go_simp; try rfl)
      try simp only [Act.put, List.setIfInBounds_toArray, List.set_cons_zero, List.set_cons_succ]
      refine wpAnyH_done (by kernel_rfl) ?_ _
      go_wp2_with (fail)
      go_ret
      exact ⟨rfl, B.out.trans (hH.mono B.out.size)⟩
    rw [hf4]
    have EW := Lib.hid (adj_want HmA.out hf1 Hd.out (by rw [Hbd.out]; exact hf2) HmP.out hf3 (by rw [HmU.out]; exact HmW.out) hf4)
    obtain ⟨cc8_00, cc8_01, cc8_02, -, -, -⟩ := KA.out.all
    have ll8_0 := KA.out.lt
    obtain ⟨cc8_10, cc8_11, cc8_12, -, -, -⟩ := KJ.out.all
    have ll8_1 := KJ.out.lt
    obtain ⟨cc8_20, cc8_21, cc8_22, -, -, -⟩ := KT.out.all
    have ll8_2 := KT.out.lt
    obtain ⟨cc8_30, cc8_31, cc8_32, -, -, -⟩ := KP.out.all
    have ll8_3 := KP.out.lt
    go_wp2_with (fail)
    refine (iSameE mP mW qP qW qcP qcW _ EW.out (OP.out.old _).rd (OW.out.old _).rd nP nW).mono ?_
    rintro e w8 ⟨rfl, hb⟩
    have OA := Lib.hid ((OA.out.old _).keep hb)
    have KA := Lib.hid ((KA.out.old _).step hb)
    have OJ := Lib.hid ((OJ.out.old _).keep hb)
    have KJ := Lib.hid ((KJ.out.old _).step hb)
    have OT := Lib.hid ((OT.out.old _).keep hb)
    have KT := Lib.hid ((KT.out.old _).step hb)
    have OP := Lib.hid ((OP.out.old _).keep hb)
    have KP := Lib.hid ((KP.out.old _).step hb)
    have OU := Lib.hid ((OU.out.old _).keep hb)
    have OW := Lib.hid ((OW.out.old _).keep hb)
    have KW : Hid (Blk3 w8 w7.heap.size 27 (.int .i64 (mW.r)) (.int .i64 (mW.c)) (.slice qW mW.zs.length qcW)) := (Blk3.at_ _ _ _ _ rfl).step hb
    have B := Lib.hid (stepB (B.out.alloc B.out.size _) hb)
    clear hb
    obtain ⟨cc9_00, cc9_01, cc9_02, -, -, -⟩ := KA.out.all
    have ll9_0 := KA.out.lt
    obtain ⟨cc9_10, cc9_11, cc9_12, -, -, -⟩ := KJ.out.all
    have ll9_1 := KJ.out.lt
    obtain ⟨cc9_20, cc9_21, cc9_22, -, -, -⟩ := KT.out.all
    have ll9_2 := KT.out.lt
    obtain ⟨cc9_30, cc9_31, cc9_32, -, -, -⟩ := KP.out.all
    have ll9_3 := KP.out.lt
    obtain ⟨cc9_40, cc9_41, cc9_42, -, -, -⟩ := KW.out.all
    have ll9_4 := KW.out.lt
    obtain ⟨cc10_00, cc10_01, cc10_02, -, -, -⟩ := KA.out.all
    have ll10_0 := KA.out.lt
    obtain ⟨cc10_10, cc10_11, cc10_12, -, -, -⟩ := KJ.out.all
    have ll10_1 := KJ.out.lt
    obtain ⟨cc10_20, cc10_21, cc10_22, -, -, -⟩ := KT.out.all
    have ll10_2 := KT.out.lt
    obtain ⟨cc10_30, cc10_31, cc10_32, -, -, -⟩ := KP.out.all
    have ll10_3 := KP.out.lt
    obtain ⟨cc10_40, cc10_41, cc10_42, -, -, -⟩ := KW.out.all
    have ll10_4 := KW.out.lt
    go_wp2_with (fail)
    obtain ⟨mV, hmV⟩ : ∃ m, invM r c xs = m := ⟨_, rfl⟩
    have HmV := Lib.hid hmV
    clear hmV
    refine (iInv r c q1 qc1 xs _ OA.out.rd n1).mono ?_
    rintro e w9 ⟨vV, rfl, own, hb⟩
    rw [HmV.out] at own ⊢
    obtain ⟨qV, qcV, rfl, -, -⟩ := own.form
    have nV := own.small
    have OA := Lib.hid (OA.out.keep hb)
    have KA := Lib.hid (KA.out.step hb)
    have OJ := Lib.hid (OJ.out.keep hb)
    have KJ := Lib.hid (KJ.out.step hb)
    have OT := Lib.hid (OT.out.keep hb)
    have KT := Lib.hid (KT.out.step hb)
    have OP := Lib.hid (OP.out.keep hb)
    have KP := Lib.hid (KP.out.step hb)
    have OU := Lib.hid (OU.out.keep hb)
    have OW := Lib.hid (OW.out.keep hb)
    have KW := Lib.hid (KW.out.step hb)
    have B := Lib.hid (stepB B.out hb)
    clear hb
    have OV := Lib.hid (own.le (Nat.zero_le _))
    clear own
    obtain ⟨cc11_00, cc11_01, cc11_02, -, -, -⟩ := KA.out.all
    have ll11_0 := KA.out.lt
    obtain ⟨cc11_10, cc11_11, cc11_12, -, -, -⟩ := KJ.out.all
    have ll11_1 := KJ.out.lt
    obtain ⟨cc11_20, cc11_21, cc11_22, -, -, -⟩ := KT.out.all
    have ll11_2 := KT.out.lt
    obtain ⟨cc11_30, cc11_31, cc11_32, -, -, -⟩ := KP.out.all
    have ll11_3 := KP.out.lt
    obtain ⟨cc11_40, cc11_41, cc11_42, -, -, -⟩ := KW.out.all
    have ll11_4 := KW.out.lt
    rcases Bool.eq_false_or_eq_true mV.ok with hg | hg
    rotate_left
    · rw [hg]
      have zV := inv_no HmV.out hg
      have lV : mV.zs.length = 0 := by rw [zV]; rfl
      have LV := Lib.hid lV
      clear zV lV
      obtain ⟨cc12_00, cc12_01, cc12_02, -, -, -⟩ := KA.out.all
      have ll12_0 := KA.out.lt
      obtain ⟨cc12_10, cc12_11, cc12_12, -, -, -⟩ := KJ.out.all
      have ll12_1 := KJ.out.lt
      obtain ⟨cc12_20, cc12_21, cc12_22, -, -, -⟩ := KT.out.all
      have ll12_2 := KT.out.lt
      obtain ⟨cc12_30, cc12_31, cc12_32, -, -, -⟩ := KP.out.all
      have ll12_3 := KP.out.lt
      obtain ⟨cc12_40, cc12_41, cc12_42, -, -, -⟩ := KW.out.all
      have ll12_4 := KW.out.lt
      go_wp2_with (fail)
      go_ret
      exact ⟨by rw [LV.out]; rfl, (B.out.alloc B.out.size _)⟩
    rw [hg]
    obtain ⟨hd, e1, e2, hI⟩ := inv_law HmV.out hg Hd.out
    obtain ⟨mI, hmI⟩ : ∃ m, idM r = m := ⟨_, rfl⟩
    have HmI := Lib.hid hmI
    clear hmI
    rw [HmI.out] at e1 e2 hI
    have E1 := Lib.hid e1
    have E2 := Lib.hid e2
    have HD := Lib.hid hd
    have HI := Lib.hid hI
    clear e1 e2 hd hI
    obtain ⟨cc12_00, cc12_01, cc12_02, -, -, -⟩ := KA.out.all
    have ll12_0 := KA.out.lt
    obtain ⟨cc12_10, cc12_11, cc12_12, -, -, -⟩ := KJ.out.all
    have ll12_1 := KJ.out.lt
    obtain ⟨cc12_20, cc12_21, cc12_22, -, -, -⟩ := KT.out.all
    have ll12_2 := KT.out.lt
    obtain ⟨cc12_30, cc12_31, cc12_32, -, -, -⟩ := KP.out.all
    have ll12_3 := KP.out.lt
    obtain ⟨cc12_40, cc12_41, cc12_42, -, -, -⟩ := KW.out.all
    have ll12_4 := KW.out.lt
    go_wp2_with (fail)
    refine (iMul r c mV.r mV.c q1 qV qc1 qcV xs mV.zs _ (OA.out.old _).rd (OV.out.old _).rd n1 nV).mono ?_
    rintro e w10 ⟨vX, rfl, own, hb⟩
    rw [E1.out] at own ⊢
    obtain ⟨qX, qcX, rfl, -, -⟩ := own.form
    have nX := own.small
    have OA := Lib.hid ((OA.out.old _).keep hb)
    have KA := Lib.hid ((KA.out.old _).step hb)
    have OJ := Lib.hid ((OJ.out.old _).keep hb)
    have KJ := Lib.hid ((KJ.out.old _).step hb)
    have OT := Lib.hid ((OT.out.old _).keep hb)
    have KT := Lib.hid ((KT.out.old _).step hb)
    have OP := Lib.hid ((OP.out.old _).keep hb)
    have KP := Lib.hid ((KP.out.old _).step hb)
    have OU := Lib.hid ((OU.out.old _).keep hb)
    have OW := Lib.hid ((OW.out.old _).keep hb)
    have KW := Lib.hid ((KW.out.old _).step hb)
    have OV := Lib.hid ((OV.out.old _).keep hb)
    have KV : Hid (Blk3 w10 w9.heap.size 27 (.int .i64 (mV.r)) (.int .i64 (mV.c)) (.slice qV mV.zs.length qcV)) := (Blk3.at_ _ _ _ _ rfl).step hb
    have B := Lib.hid (stepB (B.out.alloc B.out.size _) hb)
    clear hb
    have OX := Lib.hid (own.le (Nat.zero_le _))
    clear own
    obtain ⟨cc13_00, cc13_01, cc13_02, -, -, -⟩ := KA.out.all
    have ll13_0 := KA.out.lt
    obtain ⟨cc13_10, cc13_11, cc13_12, -, -, -⟩ := KJ.out.all
    have ll13_1 := KJ.out.lt
    obtain ⟨cc13_20, cc13_21, cc13_22, -, -, -⟩ := KT.out.all
    have ll13_2 := KT.out.lt
    obtain ⟨cc13_30, cc13_31, cc13_32, -, -, -⟩ := KP.out.all
    have ll13_3 := KP.out.lt
    obtain ⟨cc13_40, cc13_41, cc13_42, -, -, -⟩ := KW.out.all
    have ll13_4 := KW.out.lt
    obtain ⟨cc13_50, cc13_51, cc13_52, -, -, -⟩ := KV.out.all
    have ll13_5 := KV.out.lt
    go_wp2_with (fail)
    refine (iMul mV.r mV.c r c qV q1 qcV qc1 mV.zs xs _ (OV.out.old _).rd (OA.out.old _).rd nV n1).mono ?_
    rintro e w11 ⟨vY, rfl, own, hb⟩
    rw [E2.out] at own ⊢
    obtain ⟨qY, qcY, rfl, -, -⟩ := own.form
    have nY := own.small
    have OA := Lib.hid ((OA.out.old _).keep hb)
    have KA := Lib.hid ((KA.out.old _).step hb)
    have OJ := Lib.hid ((OJ.out.old _).keep hb)
    have KJ := Lib.hid ((KJ.out.old _).step hb)
    have OT := Lib.hid ((OT.out.old _).keep hb)
    have KT := Lib.hid ((KT.out.old _).step hb)
    have OP := Lib.hid ((OP.out.old _).keep hb)
    have KP := Lib.hid ((KP.out.old _).step hb)
    have OU := Lib.hid ((OU.out.old _).keep hb)
    have OW := Lib.hid ((OW.out.old _).keep hb)
    have KW := Lib.hid ((KW.out.old _).step hb)
    have OV := Lib.hid ((OV.out.old _).keep hb)
    have KV := Lib.hid ((KV.out.old _).step hb)
    have OX := Lib.hid ((OX.out.old _).keep hb)
    have KX : Hid (Blk3 w11 w10.heap.size 27 (.int .i64 (mI.r)) (.int .i64 (mI.c)) (.slice qX mI.zs.length qcX)) := (Blk3.at_ _ _ _ _ rfl).step hb
    have B := Lib.hid (stepB (B.out.alloc B.out.size _) hb)
    clear hb
    have OY := Lib.hid (own.le (Nat.zero_le _))
    clear own
    obtain ⟨cc14_00, cc14_01, cc14_02, -, -, -⟩ := KA.out.all
    have ll14_0 := KA.out.lt
    obtain ⟨cc14_10, cc14_11, cc14_12, -, -, -⟩ := KJ.out.all
    have ll14_1 := KJ.out.lt
    obtain ⟨cc14_20, cc14_21, cc14_22, -, -, -⟩ := KT.out.all
    have ll14_2 := KT.out.lt
    obtain ⟨cc14_30, cc14_31, cc14_32, -, -, -⟩ := KP.out.all
    have ll14_3 := KP.out.lt
    obtain ⟨cc14_40, cc14_41, cc14_42, -, -, -⟩ := KW.out.all
    have ll14_4 := KW.out.lt
    obtain ⟨cc14_50, cc14_51, cc14_52, -, -, -⟩ := KV.out.all
    have ll14_5 := KV.out.lt
    obtain ⟨cc14_60, cc14_61, cc14_62, -, -, -⟩ := KX.out.all
    have ll14_6 := KX.out.lt
    rw [HI.out]
    go_upto_region 19 with (fail)
    obtain ⟨wz11, hw⟩ : ∃ x, w11.alloc (.cells #[.int .i64 mI.r, .int .i64 mI.c, .slice qY mI.zs.length qcY] 27) = x := ⟨_, rfl⟩
    have OA := Lib.hid (OA.out.old (.cells #[.int .i64 mI.r, .int .i64 mI.c, .slice qY mI.zs.length qcY] 27))
    have KA := Lib.hid (KA.out.old (.cells #[.int .i64 mI.r, .int .i64 mI.c, .slice qY mI.zs.length qcY] 27))
    have OJ := Lib.hid (OJ.out.old (.cells #[.int .i64 mI.r, .int .i64 mI.c, .slice qY mI.zs.length qcY] 27))
    have KJ := Lib.hid (KJ.out.old (.cells #[.int .i64 mI.r, .int .i64 mI.c, .slice qY mI.zs.length qcY] 27))
    have OT := Lib.hid (OT.out.old (.cells #[.int .i64 mI.r, .int .i64 mI.c, .slice qY mI.zs.length qcY] 27))
    have KT := Lib.hid (KT.out.old (.cells #[.int .i64 mI.r, .int .i64 mI.c, .slice qY mI.zs.length qcY] 27))
    have OP := Lib.hid (OP.out.old (.cells #[.int .i64 mI.r, .int .i64 mI.c, .slice qY mI.zs.length qcY] 27))
    have KP := Lib.hid (KP.out.old (.cells #[.int .i64 mI.r, .int .i64 mI.c, .slice qY mI.zs.length qcY] 27))
    have OU := Lib.hid (OU.out.old (.cells #[.int .i64 mI.r, .int .i64 mI.c, .slice qY mI.zs.length qcY] 27))
    have OW := Lib.hid (OW.out.old (.cells #[.int .i64 mI.r, .int .i64 mI.c, .slice qY mI.zs.length qcY] 27))
    have KW := Lib.hid (KW.out.old (.cells #[.int .i64 mI.r, .int .i64 mI.c, .slice qY mI.zs.length qcY] 27))
    have OV := Lib.hid (OV.out.old (.cells #[.int .i64 mI.r, .int .i64 mI.c, .slice qY mI.zs.length qcY] 27))
    have KV := Lib.hid (KV.out.old (.cells #[.int .i64 mI.r, .int .i64 mI.c, .slice qY mI.zs.length qcY] 27))
    have OX := Lib.hid (OX.out.old (.cells #[.int .i64 mI.r, .int .i64 mI.c, .slice qY mI.zs.length qcY] 27))
    have KX := Lib.hid (KX.out.old (.cells #[.int .i64 mI.r, .int .i64 mI.c, .slice qY mI.zs.length qcY] 27))
    have OY := Lib.hid (OY.out.old (.cells #[.int .i64 mI.r, .int .i64 mI.c, .slice qY mI.zs.length qcY] 27))
    have KY : Hid (Blk3 (w11.alloc (.cells #[.int .i64 mI.r, .int .i64 mI.c, .slice qY mI.zs.length qcY] 27)) w11.heap.size 27 (.int .i64 mI.r) (.int .i64 mI.c) (.slice qY mI.zs.length qcY)) := Blk3.at_ _ _ _ _ rfl
    have B := Lib.hid (B.out.alloc B.out.size (.cells #[.int .i64 mI.r, .int .i64 mI.c, .slice qY mI.zs.length qcY] 27))
    rw [hw] at OA KA OJ KJ OT KT OP KP OU OW KW OV KV OX KX OY B KY ⊢
    clear hw
    refine wp_region_held_drew (S := fun w' => Below wz11.heap.size wz11 w') (by kernel_rfl) (Below.refl _ _).drew (fun hH => ?_)
    refine wpAnyH_take (i := 0) (v := ?_) (by simp only [List.getElem?_toArray, List.getElem?_cons_zero]; rfl) (by kernel_rfl) (by kernel_rfl) (by kernel_rfl) (by exact fun _ _ _ h => h) (Or.inl ⟨by rfl, ?_⟩) hH ?_
    rotate_left
    · (intro wS hS; clear hS; go_simp; try rfl)
    try simp only [Act.put, List.setIfInBounds_toArray, List.set_cons_zero, List.set_cons_succ]
    refine wpAnyH_take (i := 1) (v := ?_) (by simp only [List.getElem?_toArray, List.getElem?_cons_succ, List.getElem?_cons_zero]; rfl) (by kernel_rfl) (by kernel_rfl) (by kernel_rfl) (by exact fun _ _ _ h => h) (Or.inl ⟨by rfl, ?_⟩) hH ?_
    rotate_left
    · (intro wS hS; clear hS; go_simp; try rfl)
    try simp only [Act.put, List.setIfInBounds_toArray, List.set_cons_zero, List.set_cons_succ]
    refine wpAnyH_take (i := 2) (v := ?_) (by simp only [List.getElem?_toArray, List.getElem?_cons_succ, List.getElem?_cons_zero]; rfl) (by kernel_rfl) (by kernel_rfl) (by kernel_rfl) (by exact fun _ _ _ h => h) (Or.inl ⟨by rfl, ?_⟩) hH ?_
    rotate_left
    · (intro wS hS; clear hS; go_simp; try rfl)
    try simp only [Act.put, List.setIfInBounds_toArray, List.set_cons_zero, List.set_cons_succ]
    refine wpAnyH_take (i := 3) (v := ?_) (by simp only [List.getElem?_toArray, List.getElem?_cons_succ, List.getElem?_cons_zero]; rfl) (by kernel_rfl) (by kernel_rfl) (by kernel_rfl) (by exact fun _ _ _ h => h) (Or.inl ⟨by rfl, ?_⟩) hH ?_
    rotate_left
    · (intro wS hS; clear hS; go_simp; try rfl)
    try simp only [Act.put, List.setIfInBounds_toArray, List.set_cons_zero, List.set_cons_succ]
    refine wpAnyH_take (i := 4) (v := ?_) (by simp only [List.getElem?_toArray, List.getElem?_cons_succ, List.getElem?_cons_zero]; rfl) (by kernel_rfl) (by kernel_rfl) (by kernel_rfl) (by exact fun _ _ _ h => h) (Or.inl ⟨by rfl, ?_⟩) hH ?_
    rotate_left
    · (intro wS hS; clear hS; go_simp; try rfl)
    try simp only [Act.put, List.setIfInBounds_toArray, List.set_cons_zero, List.set_cons_succ]
    refine wpAnyH_take (i := 5) (v := ?_) (by simp only [List.getElem?_toArray, List.getElem?_cons_succ, List.getElem?_cons_zero]; rfl) (by kernel_rfl) (by kernel_rfl) (by kernel_rfl) (by exact fun _ _ _ h => h) (Or.inl ⟨by rfl, ?_⟩) hH ?_
    rotate_left
    · (intro wS hS; clear hS; go_simp; try rfl)
    try simp only [Act.put, List.setIfInBounds_toArray, List.set_cons_zero, List.set_cons_succ]
    refine wpAnyH_ready (rs := [6]) (by kernel_rfl) (by simp) ?_
    refine AllReadyH.cons (by simp only [List.getElem?_toArray, List.getElem?_cons_succ, List.getElem?_cons_zero]; rfl) (fun K hK => ?_) AllReadyH.nil
    go_simp
    (with_reducible refine (lAbs d _ HD.out).mono ?_)
    rintro e v6 ⟨rfl, hb6⟩
    try dsimp only
    refine hK.out _ _ ?_ (fun hH2 => ?_)
    · exact hH.trans (hb6.mono hH.size)
    clear hK K hH
    have hH := hH2
    clear hH2
    try simp only [Act.put, List.setIfInBounds_toArray, List.set_cons_zero, List.set_cons_succ]
    refine wpAnyH_take (i := 7) (v := ?_) (by simp only [List.getElem?_toArray, List.getElem?_cons_succ, List.getElem?_cons_zero]; rfl) (by kernel_rfl) (by kernel_rfl) (by kernel_rfl) (by exact fun _ _ _ h => h) (Or.inl ⟨by rfl, ?_⟩) hH ?_
    rotate_left
    · (intro wS hS; clear hS; go_simp; try rfl)
    try simp only [Act.put, List.setIfInBounds_toArray, List.set_cons_zero, List.set_cons_succ]
    refine wpAnyH_take (i := 8) (v := ?_) (by simp only [List.getElem?_toArray, List.getElem?_cons_succ, List.getElem?_cons_zero]; rfl) (by kernel_rfl) (by kernel_rfl) (by kernel_rfl) (by exact fun _ _ _ h => h) (Or.inl ⟨by rfl, ?_⟩) hH ?_
    rotate_left
    · (intro wS hS; clear hS; go_simp; try rfl)
    try simp only [Act.put, List.setIfInBounds_toArray, List.set_cons_zero, List.set_cons_succ]
    refine wpAnyH_take (i := 9) (v := ?_) (by simp only [List.getElem?_toArray, List.getElem?_cons_succ, List.getElem?_cons_zero]; rfl) (by kernel_rfl) (by kernel_rfl) (by kernel_rfl) (by exact fun _ _ _ h => h) (Or.inl ⟨by rfl, ?_⟩) hH ?_
    rotate_left
    · (intro wS hS; clear hS; go_simp; try rfl)
    try simp only [Act.put, List.setIfInBounds_toArray, List.set_cons_zero, List.set_cons_succ]
    refine wpAnyH_take (i := 10) (v := ?_) (by simp only [List.getElem?_toArray, List.getElem?_cons_succ, List.getElem?_cons_zero]; rfl) (by kernel_rfl) (by kernel_rfl) (by kernel_rfl) (by exact fun _ _ _ h => h) (Or.inl ⟨by rfl, ?_⟩) hH ?_
    rotate_left
    · (intro wS hS; (try dsimp only at hS); obtain ⟨k1, k2, k3, k4, k5, k6, k7, k8, k9⟩ := nineF KA.out KX.out KY.out hS; go_simp; try rfl)
    try simp only [Act.put, List.setIfInBounds_toArray, List.set_cons_zero, List.set_cons_succ]
    refine wpAnyH_take (i := 11) (v := ?_) (by simp only [List.getElem?_toArray, List.getElem?_cons_succ, List.getElem?_cons_zero]; rfl) (by kernel_rfl) (by kernel_rfl) (by kernel_rfl) (by exact fun _ _ _ h => h) (Or.inl ⟨by rfl, ?_⟩) hH ?_
    rotate_left
    · (intro wS hS; (try dsimp only at hS); obtain ⟨k1, k2, k3, k4, k5, k6, k7, k8, k9⟩ := nineF KA.out KX.out KY.out hS; go_simp; try rfl)
    try simp only [Act.put, List.setIfInBounds_toArray, List.set_cons_zero, List.set_cons_succ]
    refine wpAnyH_take (i := 12) (v := ?_) (by simp only [List.getElem?_toArray, List.getElem?_cons_succ, List.getElem?_cons_zero]; rfl) (by kernel_rfl) (by kernel_rfl) (by kernel_rfl) (by exact fun _ _ _ h => h) (Or.inl ⟨by rfl, ?_⟩) hH ?_
    rotate_left
    · (intro wS hS; (try dsimp only at hS); obtain ⟨k1, k2, k3, k4, k5, k6, k7, k8, k9⟩ := nineF KA.out KX.out KY.out hS; go_simp; try rfl)
    try simp only [Act.put, List.setIfInBounds_toArray, List.set_cons_zero, List.set_cons_succ]
    refine wpAnyH_ready (rs := [13]) (by kernel_rfl) (by simp) ?_
    refine AllReadyH.cons (by simp only [List.getElem?_toArray, List.getElem?_cons_succ, List.getElem?_cons_zero]; rfl) (fun K hK => ?_) AllReadyH.nil
    go_simp
    (with_reducible refine (lUnitX r _).mono ?_)
    rintro e v13 ⟨qU13, qcU13, rfl, own, hb13⟩
    rw [HmI.out] at own ⊢
    have OU := Lib.hid (own.le (Nat.zero_le _))
    have nU := own.small
    clear own
    try dsimp only
    refine hK.out _ _ ?_ (fun hH2 => ?_)
    · exact hH.trans (hb13.mono hH.size)
    clear hK K hH
    have hH := hH2
    clear hH2
    try simp only [Act.put, List.setIfInBounds_toArray, List.set_cons_zero, List.set_cons_succ]
    refine wpAnyH_ready (rs := [14]) (by kernel_rfl) (by simp) ?_
    refine AllReadyH.cons (by simp only [List.getElem?_toArray, List.getElem?_cons_succ, List.getElem?_cons_zero]; rfl) (fun K hK => ?_) AllReadyH.nil
    go_simp
    (with_reducible refine (iSameE mI mI qX qU13 qcX qcU13 _ rfl (OX.out.keep hH).rd OU.out.rd nX nU).mono ?_)
    rintro e v14 ⟨rfl, hb14⟩
    try dsimp only
    refine hK.out _ _ ?_ (fun hH2 => ?_)
    · exact hH.trans (hb14.mono hH.size)
    clear hK K hH
    have hH := hH2
    clear hH2
    try simp only [Act.put, List.setIfInBounds_toArray, List.set_cons_zero, List.set_cons_succ]
    refine wpAnyH_take (i := 15) (v := ?_) (by simp only [List.getElem?_toArray, List.getElem?_cons_succ, List.getElem?_cons_zero]; rfl) (by kernel_rfl) (by kernel_rfl) (by kernel_rfl) (by exact fun _ _ _ h => h) (Or.inl ⟨by rfl, ?_⟩) hH ?_
    rotate_left
    · (intro wS hS; clear hS; go_simp; try rfl)
    try simp only [Act.put, List.setIfInBounds_toArray, List.set_cons_zero, List.set_cons_succ]
    refine wpAnyH_take (i := 16) (v := ?_) (by simp only [List.getElem?_toArray, List.getElem?_cons_succ, List.getElem?_cons_zero]; rfl) (by kernel_rfl) (by kernel_rfl) (by kernel_rfl) (by exact fun _ _ _ h => h) (Or.inl ⟨by rfl, ?_⟩) hH ?_
    rotate_left
    · (intro wS hS; clear hS; go_simp; try rfl)
    try simp only [Act.put, List.setIfInBounds_toArray, List.set_cons_zero, List.set_cons_succ]
    refine wpAnyH_take (i := 17) (v := ?_) (by simp only [List.getElem?_toArray, List.getElem?_cons_succ, List.getElem?_cons_zero]; rfl) (by kernel_rfl) (by kernel_rfl) (by kernel_rfl) (by exact fun _ _ _ h => h) (Or.inl ⟨by rfl, ?_⟩) hH ?_
    rotate_left
    · (intro wS hS; (try dsimp only at hS); obtain ⟨k1, k2, k3, k4, k5, k6, k7, k8, k9⟩ := nineF KA.out KX.out KY.out hS; go_simp; try rfl)
    try simp only [Act.put, List.setIfInBounds_toArray, List.set_cons_zero, List.set_cons_succ]
    refine wpAnyH_take (i := 18) (v := ?_) (by simp only [List.getElem?_toArray, List.getElem?_cons_succ, List.getElem?_cons_zero]; rfl) (by kernel_rfl) (by kernel_rfl) (by kernel_rfl) (by exact fun _ _ _ h => h) (Or.inl ⟨by rfl, ?_⟩) hH ?_
    rotate_left
    · (intro wS hS; (try dsimp only at hS); obtain ⟨k1, k2, k3, k4, k5, k6, k7, k8, k9⟩ := nineF KA.out KX.out KY.out hS; go_simp; try rfl)
    try simp only [Act.put, List.setIfInBounds_toArray, List.set_cons_zero, List.set_cons_succ]
    refine wpAnyH_take (i := 19) (v := ?_) (by simp only [List.getElem?_toArray, List.getElem?_cons_succ, List.getElem?_cons_zero]; rfl) (by kernel_rfl) (by kernel_rfl) (by kernel_rfl) (by exact fun _ _ _ h => h) (Or.inl ⟨by rfl, ?_⟩) hH ?_
    rotate_left
    · (intro wS hS; (try dsimp only at hS); obtain ⟨k1, k2, k3, k4, k5, k6, k7, k8, k9⟩ := nineF KA.out KX.out KY.out hS; go_simp; try rfl)
    try simp only [Act.put, List.setIfInBounds_toArray, List.set_cons_zero, List.set_cons_succ]
    refine wpAnyH_ready (rs := [20]) (by kernel_rfl) (by simp) ?_
    refine AllReadyH.cons (by simp only [List.getElem?_toArray, List.getElem?_cons_succ, List.getElem?_cons_zero]; rfl) (fun K hK => ?_) AllReadyH.nil
    go_simp
    (with_reducible refine (lUnitX r _).mono ?_)
    rintro e v20 ⟨qU20, qcU20, rfl, own, hb20⟩
    rw [HmI.out] at own ⊢
    have OU := Lib.hid (own.le (Nat.zero_le _))
    have nU := own.small
    clear own
    try dsimp only
    refine hK.out _ _ ?_ (fun hH2 => ?_)
    · exact hH.trans (hb20.mono hH.size)
    clear hK K hH
    have hH := hH2
    clear hH2
    try simp only [Act.put, List.setIfInBounds_toArray, List.set_cons_zero, List.set_cons_succ]
    refine wpAnyH_ready (rs := [21]) (by kernel_rfl) (by simp) ?_
    refine AllReadyH.cons (by simp only [List.getElem?_toArray, List.getElem?_cons_succ, List.getElem?_cons_zero]; rfl) (fun K hK => ?_) AllReadyH.nil
    go_simp
    (with_reducible refine (sSameE mI mI qY qU20 qcY qcU20 _ rfl (OY.out.keep hH).rd OU.out.rd nY).mono ?_)
    rintro e v21 ⟨rfl, hb21⟩
    try dsimp only
    refine hK.out _ _ ?_ (fun hH2 => ?_)
    · exact hH.trans (hb21.mono hH.size)
    clear hK K hH
    have hH := hH2
    clear hH2
    try simp only [Act.put, List.setIfInBounds_toArray, List.set_cons_zero, List.set_cons_succ]
    refine wpAnyH_take (i := 22) (v := ?_) (by simp only [List.getElem?_toArray, List.getElem?_cons_succ, List.getElem?_cons_zero]; rfl) (by kernel_rfl) (by kernel_rfl) (by kernel_rfl) (by exact fun _ _ _ h => h) (Or.inl ⟨by rfl, ?_⟩) hH ?_
    rotate_left
    · (intro wS hS; clear hS; go_simp; try rfl)
    try simp only [Act.put, List.setIfInBounds_toArray, List.set_cons_zero, List.set_cons_succ]
    refine wpAnyH_take (i := 23) (v := ?_) (by simp only [List.getElem?_toArray, List.getElem?_cons_succ, List.getElem?_cons_zero]; rfl) (by kernel_rfl) (by kernel_rfl) (by kernel_rfl) (by exact fun _ _ _ h => h) (Or.inl ⟨by rfl, ?_⟩) hH ?_
    rotate_left
    · (intro wS hS; clear hS; go_simp; try rfl)
    try simp only [Act.put, List.setIfInBounds_toArray, List.set_cons_zero, List.set_cons_succ]
    refine wpAnyH_done (by kernel_rfl) ?_ _
    go_wp2_with (fail)
    go_ret
    exact ⟨rfl, B.out.trans (hH.mono B.out.size)⟩
  · have hbig' : 1048576 < len0 := by omega
    clear hbig
    go_enter Try.func13, Try.ntmps13
    go_wp2_with (fail)
    refine (big_yes w a0 len0 cap0 hbig').mono ?_
    rintro e w1 ⟨rfl, rfl⟩
    go_wp2_with (fail)
    go_ret
    exact ⟨rfl, Below.refl _ _⟩

/-! ### The row's step -/
set_option maxRecDepth 100000 in
theorem lifted (os : Os) (started : os.Started) (H : Type) (enc : TypeId × Value → H) :
    ReturnsInHanded {} Try.checked os 13 .any (Rows.fnAdjugateSpec.pre6 enc Try.prog Try.f13 Rows.fnAdjugateRow.domain false) (Rows.fnAdjugateSpec.post enc Try.prog Try.f13 false true false false) := by
  refine returnsInHanded_of_change (C := Try.checked) own started (by kernel_rfl) Try.func13
    (ChangeSpec.witness6 (enc := enc) (C := Try.checked) false ⟨#[], #[.slice none 0 0], []⟩ 8 (by kernel_rfl) (by kernel_rfl) (by kernel_rfl) (by kernel_rfl)) ?_
  intro W base args ds gs before hval0 hW hcnd _
  have hval : ∀ (j : Nat) t v, Try.f13.params[j]? = some t → args[j]? = some v → Value.okWide Try.prog W .any base t v := hval0
  have hW' := hW
  obtain ⟨p, q, hA0, hV, rfl, hfz, hnd⟩ := hW
  have hA : DataW.TrodAll enc Try.prog W 0 (fun _ => true) true Try.f13.params.toList args.toList ds p := hA0
  rw [Try.params13] at hA hval
  obtain ⟨v0, vs0, d0, ds0, p0, q0, hargs, rfl, rfl, h0, r0⟩ := trodAll_cons hA
  obtain ⟨rfl, rfl, rfl⟩ := trodAll_nil r0
  obtain rfl : args = #[v0] := by cases args; simp_all
  obtain ⟨rfl, rfl⟩ := trodVars_none hV
  have k0 := h0
  have lt0 : ∀ x ∈ p0, x.block < W.heap.size := by obtain ⟨m, hm⟩ := k0; exact DataW.trod_lt m _ _ _ hm
  obtain ⟨a0, len0, cap0, rfl⟩ := okWide_slice Try.underlying38 (hval 0 38 v0 rfl rfl)
  obtain ⟨fuel0, hf0⟩ := h0
  obtain ⟨z0, w0⟩ : ∃ zs, IsRow .u8 W a0 len0 cap0 zs := isRow_of Try.underlying38 Try.underlying5 (by kernel_rfl) (by simpa [Value.cells] using hf0)
  clear hA0 hval0
  refine (walk a0 len0 cap0 z0 W w0).mono fun e W' ⟨he, bel⟩ => ?_
  subst he
  exact ⟨_, rfl, _, _, _, [], _, [], hW', trodAll_mk1 (shut_bool Try.underlying4 _), (trodAll_cons_mk (Below.trod laidOut (by kernel_rfl) (of_decide_eq_true (by kernel_rfl)) k0 bel lt0) trodAll_mk0), rfl, bel.frame _, fun h => by cases h⟩

theorem over : Rows.fnAdjugateRow.holds Try.pinned (OpenSpec.ofChange Rows.fnAdjugateSpec) :=
  OpenClaim.holds_of_wide 13 Try.f13 rfl rfl rfl rfl rfl rfl rfl ⟨rfl, rfl, rfl, rfl, rfl⟩ rfl rfl rfl rfl rfl (by kernel_rfl) Try.func13 (by kernel_rfl)
    (of_decide_eq_true (by kernel_rfl)) (by unfold Func.isWrapper; first | (rw [if_pos (by decide +kernel)]; kernel_rfl) | (rw [if_neg (by decide +kernel)]; exact ⟨rfl, rfl⟩))
    (fun os started H enc _ => lifted os started H enc)

/-- ████ THE STATEMENT ████ -/
theorem proved : Rows.FnAdjugateSaid := over
#print axioms proved
end Go.Proofs.Ytdnajkoeojlnbaa.fnAdjugate
