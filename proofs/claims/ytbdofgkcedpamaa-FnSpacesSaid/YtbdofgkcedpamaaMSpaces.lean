/-
  Proved: for every code, the law FnSpaces returns true: the rows of a matrix and those of another one span one space exactly if the rank does not grow, wherever all is found.
  Conditions: none beyond the row's own (the argument reads as data).
-/
import Derived.Test.YtbdofgkcedpamaaRows
import Derived.ChangeOld
import Derived.Below
import Derived.Deep.RegionHeld3
import Derived.Deep.DeepCutAuto
import Derived.WalkKit
import Derived.ProofKit
import Derived.OpenShut
import Derived.ShutString
import Derived.Carry
import Derived.Lib.SmallJoins
import Derived.Test.YtbdofgkcedpamaaPk4
import Derived.Test.YtbdofgkcedpamaaPk5
import Derived.Test.YtbdofgkcedpamaaPk7
import Derived.Test.YtbdofgkcedpamaaPk13
import Derived.Test.YtbdofgkcedpamaaPk14

namespace Go.Proofs.Ytbdofgkcedpamaa.fnSpaces
open Go.ChangeShapes Go.WideShapes Go.ChangeAt Go.RowKit
open Go.ChangeMaps (open_string shut_string)
set_option linter.unusedVariables false

theorem own : ownKnob Try.prog.godebug = none := by kernel_rfl
theorem laidOut : laidOutB Try.prog = true := by kernel_rfl

/-- What the walk is told of a slice of integers that came in: it is nil; or it leads to a row of 'cap' cells, the numbers 'zs' (the first 'len' are its elements), each fitting its kind. -/
def IsRow (k : IntKind) (w : World) (a : Option Addr) (len cap : Nat) (zs : List Int) : Prop :=
  (a = none ∧ len = 0 ∧ cap = 0 ∧ zs = []) ∨
  ∃ x, a = some x ∧ len ≤ cap ∧ cap ≤ maxLen ∧ zs.length = cap ∧ (∀ i, i < zs.length → w.cell? (x.add i) = some (.int k (zs.getD i 0))) ∧ ∀ n ∈ zs, (Lit.int k n).wf = true
theorem isRow_of {H : Type} {enc : TypeId × Value → H} {P : Program} {W : World} {base : Nat} {held : Bool} {t e : TypeId} {k : IntKind} {a : Option Addr} {len cap fuel : Nat} {x : DataW H × List MemPlace}
    (ht : P.underlying t = some (.slice e)) (he : P.underlying e = some (.int k)) (hc : P.cellsOf e = 1) (hf : DataW.trod enc P W base (fun _ => true) held fuel t [.slice a len cap] = some x) : ∃ zs, IsRow k W a len cap zs := by
  rcases open_ints ht he hc hf with ⟨hcs, _⟩ | ⟨x, l, c, zs, hcs, _, hl, hm, hz, _, hcell, hwz⟩
  · simp at hcs
    obtain ⟨rfl, rfl, rfl⟩ := hcs
    exact ⟨[], .inl ⟨rfl, rfl, rfl, rfl⟩⟩
  · simp at hcs
    obtain ⟨rfl, rfl, rfl⟩ := hcs
    exact ⟨zs, .inr ⟨_, rfl, hl, hm, by simpa using hz, hcell, hwz⟩⟩
theorem _root_.Go.Proofs.Ytbdofgkcedpamaa.Own.old {B : Nat} {w : World} {v : Value} {zs : List Int} (h : Own B w v zs) (o : Obj) : Own B (w.alloc o) v zs := h.keep ((Below.refl _ _).alloc (Nat.le_refl _) o)
theorem _root_.Go.Proofs.Ytbdofgkcedpamaa.Own.rd {B : Nat} {w : World} {a : Option Addr} {n cap : Nat} {zs : List Int} (h : Own B w (.slice a n cap) zs) : Rd w a zs := by
  obtain ⟨a', c', e, hr, -⟩ := h.form
  injection e with e1 e2 e3
  rw [e1]; exact hr
theorem codeIn_of_row {w : World} {a : Option Addr} {len cap : Nat} {zs : List Int} (h : IsRow .u8 w a len cap zs) : CodeIn w a len := by
  rcases h with ⟨rfl, rfl, rfl, rfl⟩ | ⟨x, rfl, hl, hm, hz, hcell, hwf⟩
  · exact codeIn_none w
  · exact codeIn_some hl hm hz hcell hwf
set_option maxRecDepth 100000 in
set_option maxHeartbeats 16000000 in

theorem walk (a0 : Option Addr) (len0 cap0 : Nat) (z0 : List Int) (w : World) (w0 : IsRow .u8 w a0 len0 cap0 z0) :
    Calls Try.prog 8 #[.slice a0 len0 cap0] w fun e w' => e = .returned (.bool true) ∧ Below w.heap.size w w' := by
  have hc : CodeIn w a0 len0 := codeIn_of_row w0
  have hl := hc.1
  have HC := Lib.hid hc
  clear w0 hc
  unfold maxLen at hl
  by_cases hbig : len0 ≤ 1048576
  · go_enter Try.func8, Try.ntmps8
    go_wp2_with (fail)
    refine (big_no w a0 len0 cap0 hbig).mono ?_
    rintro e w1 ⟨rfl, rfl⟩
    go_wp2_with (fail)
    refine (drawSp w a0 len0 cap0 HC.out).mono ?_
    rintro e w1 ⟨r, c, v, xs, r', c', v', ys, rfl, o1, o2, l1, l2, hb⟩
    obtain ⟨q1, qc1, rfl, -, -, s1, -, e1⟩ := o1.form2
    obtain ⟨q2, qc2, rfl, -, -, s2, -, e2⟩ := o2.form2
    have B := Lib.hid hb
    have OA := Lib.hid (o1.le (Nat.zero_le _))
    have OB := Lib.hid (o2.le (Nat.zero_le _))
    have n1 : xs.length ≤ 16777216 := by omega
    have n2 : ys.length ≤ 16777216 := by omega
    clear hb o1 o2
    go_wp2_with (fail)
    obtain ⟨sP, hsP⟩ : ∃ m, spOf r c xs r' c' ys = m := ⟨_, rfl⟩
    have HsP := Lib.hid hsP
    clear hsP
    refine (iSameSpace r c q1 qc1 xs r' c' q2 qc2 ys _ ((OA.out.old _).old _).rd n1 ((OB.out.old _).old _).rd n2).mono ?_
    rintro e w2 ⟨rfl, hb⟩
    have OA := Lib.hid (((OA.out.old _).old _).keep hb)
    have OB := Lib.hid (((OB.out.old _).old _).keep hb)
    have KA : Hid (Blk3 w2 w1.heap.size 26 (.int .i64 (r)) (.int .i64 (c)) (.slice q1 xs.length qc1)) := ((Blk3.at_ _ _ _ _ rfl).old _).step hb
    have KB : Hid (Blk3 w2 (w1.heap.size + 1) 26 (.int .i64 (r')) (.int .i64 (c')) (.slice q2 ys.length qc2)) := (Blk3.at_ _ _ _ _ (by simp)).step hb
    have B := Lib.hid (stepB ((B.out.alloc B.out.size _).alloc (B.out.alloc B.out.size _).size _) hb)
    clear hb
    rw [HsP.out]
    obtain ⟨cc1_00, cc1_01, cc1_02, -, -, -⟩ := KA.out.all
    have ll1_0 := KA.out.lt
    obtain ⟨cc1_10, cc1_11, cc1_12, -, -, -⟩ := KB.out.all
    have ll1_1 := KB.out.lt
    go_wp2_with (fail)
    refine (sSameSpace r c q1 qc1 xs r' c' q2 qc2 ys _ OA.out.rd n1 s1 OB.out.rd n2 s2).mono ?_
    rintro e w3 ⟨rfl, hb⟩
    have OA := Lib.hid (OA.out.keep hb)
    have OB := Lib.hid (OB.out.keep hb)
    have KA := Lib.hid (KA.out.step hb)
    have KB := Lib.hid (KB.out.step hb)
    have B := Lib.hid (stepB B.out hb)
    clear hb
    rw [HsP.out]
    obtain ⟨cc2_00, cc2_01, cc2_02, -, -, -⟩ := KA.out.all
    have ll2_0 := KA.out.lt
    obtain ⟨cc2_10, cc2_11, cc2_12, -, -, -⟩ := KB.out.all
    have ll2_1 := KB.out.lt
    rcases Bool.eq_false_or_eq_true sP.2 with hk | hk
    rotate_left
    · rw [hk]
      have zP : sP.1 = false := by rw [← HsP.out]; exact sp_no (by rw [HsP.out]; exact hk)
      rw [zP]
      clear zP
      obtain ⟨cc3_00, cc3_01, cc3_02, -, -, -⟩ := KA.out.all
      have ll3_0 := KA.out.lt
      obtain ⟨cc3_10, cc3_11, cc3_12, -, -, -⟩ := KB.out.all
      have ll3_1 := KB.out.lt
      go_wp2_with (fail)
      go_ret
      exact ⟨rfl, B.out⟩
    rw [hk]
    obtain ⟨cc3_00, cc3_01, cc3_02, -, -, -⟩ := KA.out.all
    have ll3_0 := KA.out.lt
    obtain ⟨cc3_10, cc3_11, cc3_12, -, -, -⟩ := KB.out.all
    have ll3_1 := KB.out.lt
    go_wp2_with (fail)
    obtain ⟨mS, hmS⟩ : ∃ m, stackM r c xs r' c' ys = m := ⟨_, rfl⟩
    have HmS := Lib.hid hmS
    clear hmS
    refine (iStack r c r' c' q1 q2 qc1 qc2 xs ys _ OA.out.rd OB.out.rd n1 n2 s1 s2 e1 e2).mono ?_
    rintro e w4 ⟨vS, rfl, own, hb⟩
    rw [HmS.out] at own ⊢
    obtain ⟨qS, qcS, rfl, -, -⟩ := own.form
    have nS := own.small
    have OA := Lib.hid (OA.out.keep hb)
    have OB := Lib.hid (OB.out.keep hb)
    have KA := Lib.hid (KA.out.step hb)
    have KB := Lib.hid (KB.out.step hb)
    have B := Lib.hid (stepB B.out hb)
    clear hb
    have OS := Lib.hid (own.le (Nat.zero_le _))
    clear own
    obtain ⟨cc4_00, cc4_01, cc4_02, -, -, -⟩ := KA.out.all
    have ll4_0 := KA.out.lt
    obtain ⟨cc4_10, cc4_11, cc4_12, -, -, -⟩ := KB.out.all
    have ll4_1 := KB.out.lt
    go_wp2_with (fail)
    obtain ⟨eX, heX⟩ : ∃ m, echR r c xs = m := ⟨_, rfl⟩
    have HeX := Lib.hid heX
    clear heX
    refine (iRankOf r c q1 qc1 xs _ (OA.out.old _).rd n1).mono ?_
    rintro e w5 ⟨rfl, hb⟩
    have OA := Lib.hid ((OA.out.old _).keep hb)
    have OB := Lib.hid ((OB.out.old _).keep hb)
    have KA := Lib.hid ((KA.out.old _).step hb)
    have KB := Lib.hid ((KB.out.old _).step hb)
    have OS := Lib.hid ((OS.out.old _).keep hb)
    have KS : Hid (Blk3 w5 w4.heap.size 26 (.int .i64 (mS.r)) (.int .i64 (mS.c)) (.slice qS mS.zs.length qcS)) := (Blk3.at_ _ _ _ _ rfl).step hb
    have B := Lib.hid (stepB (B.out.alloc B.out.size _) hb)
    clear hb
    rw [HeX.out]
    obtain ⟨cc5_00, cc5_01, cc5_02, -, -, -⟩ := KA.out.all
    have ll5_0 := KA.out.lt
    obtain ⟨cc5_10, cc5_11, cc5_12, -, -, -⟩ := KB.out.all
    have ll5_1 := KB.out.lt
    obtain ⟨cc5_20, cc5_21, cc5_22, -, -, -⟩ := KS.out.all
    have ll5_2 := KS.out.lt
    go_wp2_with (fail)
    obtain ⟨eY, heY⟩ : ∃ m, echR r' c' ys = m := ⟨_, rfl⟩
    have HeY := Lib.hid heY
    clear heY
    refine (iRankOf r' c' q2 qc2 ys _ OB.out.rd n2).mono ?_
    rintro e w6 ⟨rfl, hb⟩
    have OA := Lib.hid (OA.out.keep hb)
    have OB := Lib.hid (OB.out.keep hb)
    have KA := Lib.hid (KA.out.step hb)
    have KB := Lib.hid (KB.out.step hb)
    have OS := Lib.hid (OS.out.keep hb)
    have KS := Lib.hid (KS.out.step hb)
    have B := Lib.hid (stepB B.out hb)
    clear hb
    rw [HeY.out]
    obtain ⟨cc6_00, cc6_01, cc6_02, -, -, -⟩ := KA.out.all
    have ll6_0 := KA.out.lt
    obtain ⟨cc6_10, cc6_11, cc6_12, -, -, -⟩ := KB.out.all
    have ll6_1 := KB.out.lt
    obtain ⟨cc6_20, cc6_21, cc6_22, -, -, -⟩ := KS.out.all
    have ll6_2 := KS.out.lt
    go_wp2_with (fail)
    obtain ⟨eZ, heZ⟩ : ∃ m, echR mS.r mS.c mS.zs = m := ⟨_, rfl⟩
    have HeZ := Lib.hid heZ
    clear heZ
    refine (iRankOf mS.r mS.c qS qcS mS.zs _ OS.out.rd nS).mono ?_
    rintro e w7 ⟨rfl, hb⟩
    have OA := Lib.hid (OA.out.keep hb)
    have OB := Lib.hid (OB.out.keep hb)
    have KA := Lib.hid (KA.out.step hb)
    have KB := Lib.hid (KB.out.step hb)
    have OS := Lib.hid (OS.out.keep hb)
    have KS := Lib.hid (KS.out.step hb)
    have B := Lib.hid (stepB B.out hb)
    clear hb
    rw [HeZ.out]
    obtain ⟨cc7_00, cc7_01, cc7_02, -, -, -⟩ := KA.out.all
    have ll7_0 := KA.out.lt
    obtain ⟨cc7_10, cc7_11, cc7_12, -, -, -⟩ := KB.out.all
    have ll7_1 := KB.out.lt
    obtain ⟨cc7_20, cc7_21, cc7_22, -, -, -⟩ := KS.out.all
    have ll7_2 := KS.out.lt
    rcases Bool.eq_false_or_eq_true mS.ok with hS | hS
    rotate_left
    · rw [hS]
      obtain ⟨cc8_00, cc8_01, cc8_02, -, -, -⟩ := KA.out.all
      have ll8_0 := KA.out.lt
      obtain ⟨cc8_10, cc8_11, cc8_12, -, -, -⟩ := KB.out.all
      have ll8_1 := KB.out.lt
      obtain ⟨cc8_20, cc8_21, cc8_22, -, -, -⟩ := KS.out.all
      have ll8_2 := KS.out.lt
      go_wp2_with (fail)
      go_ret
      exact ⟨rfl, B.out⟩
    rw [hS]
    rcases Bool.eq_false_or_eq_true eX.ok with hX | hX
    rotate_left
    · rw [hX]
      obtain ⟨cc8_00, cc8_01, cc8_02, -, -, -⟩ := KA.out.all
      have ll8_0 := KA.out.lt
      obtain ⟨cc8_10, cc8_11, cc8_12, -, -, -⟩ := KB.out.all
      have ll8_1 := KB.out.lt
      obtain ⟨cc8_20, cc8_21, cc8_22, -, -, -⟩ := KS.out.all
      have ll8_2 := KS.out.lt
      go_wp2_with (fail)
      go_ret
      exact ⟨rfl, B.out⟩
    rw [hX]
    rcases Bool.eq_false_or_eq_true eY.ok with hY | hY
    rotate_left
    · rw [hY]
      obtain ⟨cc8_00, cc8_01, cc8_02, -, -, -⟩ := KA.out.all
      have ll8_0 := KA.out.lt
      obtain ⟨cc8_10, cc8_11, cc8_12, -, -, -⟩ := KB.out.all
      have ll8_1 := KB.out.lt
      obtain ⟨cc8_20, cc8_21, cc8_22, -, -, -⟩ := KS.out.all
      have ll8_2 := KS.out.lt
      go_wp2_with (fail)
      go_ret
      exact ⟨rfl, B.out⟩
    rw [hY]
    rcases Bool.eq_false_or_eq_true eZ.ok with hZ | hZ
    rotate_left
    · rw [hZ]
      obtain ⟨cc8_00, cc8_01, cc8_02, -, -, -⟩ := KA.out.all
      have ll8_0 := KA.out.lt
      obtain ⟨cc8_10, cc8_11, cc8_12, -, -, -⟩ := KB.out.all
      have ll8_1 := KB.out.lt
      obtain ⟨cc8_20, cc8_21, cc8_22, -, -, -⟩ := KS.out.all
      have ll8_2 := KS.out.lt
      go_wp2_with (fail)
      go_ret
      exact ⟨rfl, B.out⟩
    rw [hZ]
    have L := sp_law HsP.out hk HmS.out hS (by rw [HeZ.out]; exact hZ)
    rw [HeX.out, HeY.out, HeZ.out] at L
    by_cases d1 : eX.pv.length = eZ.pv.length
    · by_cases d2 : eY.pv.length = eZ.pv.length
      · rw [decide_eq_true d1] at L
        have b1 : ((eX.pv.length : Int) == (eZ.pv.length : Int)) = true := by simp; omega
        rw [decide_eq_true d2] at L
        have b2 : ((eY.pv.length : Int) == (eZ.pv.length : Int)) = true := by simp; omega
        rw [L]
        clear L d1 d2
        obtain ⟨cc8_00, cc8_01, cc8_02, -, -, -⟩ := KA.out.all
        have ll8_0 := KA.out.lt
        obtain ⟨cc8_10, cc8_11, cc8_12, -, -, -⟩ := KB.out.all
        have ll8_1 := KB.out.lt
        obtain ⟨cc8_20, cc8_21, cc8_22, -, -, -⟩ := KS.out.all
        have ll8_2 := KS.out.lt
        go_wp2_with (fail)
        go_ret
        exact ⟨rfl, B.out⟩
      · rw [decide_eq_true d1] at L
        have b1 : ((eX.pv.length : Int) == (eZ.pv.length : Int)) = true := by simp; omega
        rw [decide_eq_false d2] at L
        have b2 : ((eY.pv.length : Int) == (eZ.pv.length : Int)) = false := by simp; omega
        rw [L]
        clear L d1 d2
        obtain ⟨cc8_00, cc8_01, cc8_02, -, -, -⟩ := KA.out.all
        have ll8_0 := KA.out.lt
        obtain ⟨cc8_10, cc8_11, cc8_12, -, -, -⟩ := KB.out.all
        have ll8_1 := KB.out.lt
        obtain ⟨cc8_20, cc8_21, cc8_22, -, -, -⟩ := KS.out.all
        have ll8_2 := KS.out.lt
        go_wp2_with (fail)
        go_ret
        exact ⟨rfl, B.out⟩
    · by_cases d2 : eY.pv.length = eZ.pv.length
      · rw [decide_eq_false d1] at L
        have b1 : ((eX.pv.length : Int) == (eZ.pv.length : Int)) = false := by simp; omega
        rw [decide_eq_true d2] at L
        have b2 : ((eY.pv.length : Int) == (eZ.pv.length : Int)) = true := by simp; omega
        rw [L]
        clear L d1 d2
        obtain ⟨cc8_00, cc8_01, cc8_02, -, -, -⟩ := KA.out.all
        have ll8_0 := KA.out.lt
        obtain ⟨cc8_10, cc8_11, cc8_12, -, -, -⟩ := KB.out.all
        have ll8_1 := KB.out.lt
        obtain ⟨cc8_20, cc8_21, cc8_22, -, -, -⟩ := KS.out.all
        have ll8_2 := KS.out.lt
        go_wp2_with (fail)
        go_ret
        exact ⟨rfl, B.out⟩
      · rw [decide_eq_false d1] at L
        have b1 : ((eX.pv.length : Int) == (eZ.pv.length : Int)) = false := by simp; omega
        rw [decide_eq_false d2] at L
        have b2 : ((eY.pv.length : Int) == (eZ.pv.length : Int)) = false := by simp; omega
        rw [L]
        clear L d1 d2
        obtain ⟨cc8_00, cc8_01, cc8_02, -, -, -⟩ := KA.out.all
        have ll8_0 := KA.out.lt
        obtain ⟨cc8_10, cc8_11, cc8_12, -, -, -⟩ := KB.out.all
        have ll8_1 := KB.out.lt
        obtain ⟨cc8_20, cc8_21, cc8_22, -, -, -⟩ := KS.out.all
        have ll8_2 := KS.out.lt
        go_wp2_with (fail)
        go_ret
        exact ⟨rfl, B.out⟩
  · have hbig' : 1048576 < len0 := by omega
    clear hbig
    go_enter Try.func8, Try.ntmps8
    go_wp2_with (fail)
    refine (big_yes w a0 len0 cap0 hbig').mono ?_
    rintro e w1 ⟨rfl, rfl⟩
    go_wp2_with (fail)
    go_ret
    exact ⟨rfl, Below.refl _ _⟩

/-! ### The row's step -/
set_option maxRecDepth 100000 in
theorem lifted (os : Os) (started : os.Started) (H : Type) (enc : TypeId × Value → H) :
    ReturnsInHanded {} Try.checked os 8 .any (Rows.fnSpacesSpec.pre6 enc Try.prog Try.f8 Rows.fnSpacesRow.domain false) (Rows.fnSpacesSpec.post enc Try.prog Try.f8 false true false false) := by
  refine returnsInHanded_of_change (C := Try.checked) own started (by kernel_rfl) Try.func8
    (ChangeSpec.witness6 (enc := enc) (C := Try.checked) false ⟨#[], #[.slice none 0 0], []⟩ 8 (by kernel_rfl) (by kernel_rfl) (by kernel_rfl) (by kernel_rfl)) ?_
  intro W base args ds gs before hval0 hW hcnd _
  have hval : ∀ (j : Nat) t v, Try.f8.params[j]? = some t → args[j]? = some v → Value.okWide Try.prog W .any base t v := hval0
  have hW' := hW
  obtain ⟨p, q, hA0, hV, rfl, hfz, hnd⟩ := hW
  have hA : DataW.TrodAll enc Try.prog W 0 (fun _ => true) true Try.f8.params.toList args.toList ds p := hA0
  rw [Try.params8] at hA hval
  obtain ⟨v0, vs0, d0, ds0, p0, q0, hargs, rfl, rfl, h0, r0⟩ := trodAll_cons hA
  obtain ⟨rfl, rfl, rfl⟩ := trodAll_nil r0
  obtain rfl : args = #[v0] := by cases args; simp_all
  obtain ⟨rfl, rfl⟩ := trodVars_none hV
  have k0 := h0
  have lt0 : ∀ x ∈ p0, x.block < W.heap.size := by obtain ⟨m, hm⟩ := k0; exact DataW.trod_lt m _ _ _ hm
  obtain ⟨a0, len0, cap0, rfl⟩ := okWide_slice Try.underlying41 (hval 0 41 v0 rfl rfl)
  obtain ⟨fuel0, hf0⟩ := h0
  obtain ⟨z0, w0⟩ : ∃ zs, IsRow .u8 W a0 len0 cap0 zs := isRow_of Try.underlying41 Try.underlying5 (by kernel_rfl) (by simpa [Value.cells] using hf0)
  clear hA0 hval0
  refine (walk a0 len0 cap0 z0 W w0).mono fun e W' ⟨he, bel⟩ => ?_
  subst he
  exact ⟨_, rfl, _, _, _, [], _, [], hW', trodAll_mk1 (shut_bool Try.underlying4 _), (trodAll_cons_mk (Below.trod laidOut (by kernel_rfl) (of_decide_eq_true (by kernel_rfl)) k0 bel lt0) trodAll_mk0), rfl, bel.frame _, fun h => by cases h⟩

theorem over : Rows.fnSpacesRow.holds Try.pinned (OpenSpec.ofChange Rows.fnSpacesSpec) :=
  OpenClaim.holds_of_wide 8 Try.f8 rfl rfl rfl rfl rfl rfl rfl ⟨rfl, rfl, rfl, rfl, rfl⟩ rfl rfl rfl rfl rfl (by kernel_rfl) Try.func8 (by kernel_rfl)
    (of_decide_eq_true (by kernel_rfl)) (by unfold Func.isWrapper; first | (rw [if_pos (by decide +kernel)]; kernel_rfl) | (rw [if_neg (by decide +kernel)]; exact ⟨rfl, rfl⟩))
    (fun os started H enc _ => lifted os started H enc)

/-- ████ THE STATEMENT ████ -/
theorem proved : Rows.FnSpacesSaid := over
#print axioms proved
end Go.Proofs.Ytbdofgkcedpamaa.fnSpaces
