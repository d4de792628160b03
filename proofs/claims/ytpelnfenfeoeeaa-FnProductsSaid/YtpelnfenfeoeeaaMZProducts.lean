/-
  Proved: for every code, the law FnProducts returns true: the determinant of a product is the product of the determinants, wherever all are found.
  Conditions: none beyond the row's own (the argument reads as data).
-/
import Derived.Test.YtpelnfenfeoeeaaRows
import Derived.ChangeOld
import Derived.Below
import Derived.Deep.RegionHeld3
import Derived.Deep.DeepCutAuto
import Derived.WalkKit
import Derived.ProofKit
import Derived.OpenShut
import Derived.ShutString
import Derived.Carry
import Derived.Lib.SmallJoins
import Derived.Test.YtpelnfenfeoeeaaPk57
import Derived.Test.YtpelnfenfeoeeaaPk58
import Derived.Test.YtpelnfenfeoeeaaPk59
import Derived.Test.YtpelnfenfeoeeaaPk60

namespace Go.Proofs.Ytpelnfenfeoeeaa.fnProducts
open Go.ChangeShapes Go.WideShapes Go.ChangeAt Go.RowKit
open Go.ChangeMaps (open_string shut_string)
set_option linter.unusedVariables false

theorem own : ownKnob Try.prog.godebug = none := by kernel_rfl
theorem laidOut : laidOutB Try.prog = true := by kernel_rfl

/-- What the walk is told of a slice of integers that came in: it is nil; or it leads to a row of 'cap' cells, the numbers 'zs' (the first 'len' are its elements), each fitting its kind. -/
def IsRow (k : IntKind) (w : World) (a : Option Addr) (len cap : Nat) (zs : List Int) : Prop :=
  (a = none ∧ len = 0 ∧ cap = 0 ∧ zs = []) ∨
  ∃ x, a = some x ∧ len ≤ cap ∧ cap ≤ maxLen ∧ zs.length = cap ∧ (∀ i, i < zs.length → w.cell? (x.add i) = some (.int k (zs.getD i 0))) ∧ ∀ n ∈ zs, (Lit.int k n).wf = true
theorem isRow_of {H : Type} {enc : TypeId × Value → H} {P : Program} {W : World} {base : Nat} {held : Bool} {t e : TypeId} {k : IntKind} {a : Option Addr} {len cap fuel : Nat} {x : DataW H × List MemPlace}
    (ht : P.underlying t = some (.slice e)) (he : P.underlying e = some (.int k)) (hc : P.cellsOf e = 1) (hf : DataW.trod enc P W base (fun _ => true) held fuel t [.slice a len cap] = some x) : ∃ zs, IsRow k W a len cap zs := by
  rcases open_ints ht he hc hf with ⟨hcs, _⟩ | ⟨x, l, c, zs, hcs, _, hl, hm, hz, _, hcell, hwz⟩
  · simp at hcs
    obtain ⟨rfl, rfl, rfl⟩ := hcs
    exact ⟨[], .inl ⟨rfl, rfl, rfl, rfl⟩⟩
  · simp at hcs
    obtain ⟨rfl, rfl, rfl⟩ := hcs
    exact ⟨zs, .inr ⟨_, rfl, hl, hm, by simpa using hz, hcell, hwz⟩⟩
theorem _root_.Go.Proofs.Ytpelnfenfeoeeaa.Own.old {B : Nat} {w : World} {v : Value} {zs : List Int} (h : Own B w v zs) (o : Obj) : Own B (w.alloc o) v zs := h.keep ((Below.refl _ _).alloc (Nat.le_refl _) o)
theorem _root_.Go.Proofs.Ytpelnfenfeoeeaa.Own.rd {B : Nat} {w : World} {a : Option Addr} {n cap : Nat} {zs : List Int} (h : Own B w (.slice a n cap) zs) : Rd w a zs := by
  obtain ⟨a', c', e, hr, -⟩ := h.form
  injection e with e1 e2 e3
  rw [e1]; exact hr
theorem codeIn_of_row {w : World} {a : Option Addr} {len cap : Nat} {zs : List Int} (h : IsRow .u8 w a len cap zs) : CodeIn w a len := by
  rcases h with ⟨rfl, rfl, rfl, rfl⟩ | ⟨x, rfl, hl, hm, hz, hcell, hwf⟩
  · exact codeIn_none w
  · exact codeIn_some hl hm hz hcell hwf
set_option maxRecDepth 100000 in
set_option maxHeartbeats 16000000 in

theorem walk (a0 : Option Addr) (len0 cap0 : Nat) (z0 : List Int) (w : World) (w0 : IsRow .u8 w a0 len0 cap0 z0) :
    Calls Try.prog 13 #[.slice a0 len0 cap0] w fun e w' => e = .returned (.bool true) ∧ Below w.heap.size w w' := by
  have hc : CodeIn w a0 len0 := codeIn_of_row w0
  have hl := hc.1
  have HC := Lib.hid hc
  clear w0 hc
  unfold maxLen at hl
  by_cases hbig : len0 ≤ 1048576
  · go_enter Try.func13, Try.ntmps13
    go_wp2_with (fail)
    refine (big_no w a0 len0 cap0 hbig).mono ?_
    rintro e w1 ⟨rfl, rfl⟩
    go_wp2_with (fail)
    refine (drawDet w a0 len0 cap0 HC.out).mono ?_
    rintro e w1 ⟨r, c, q1, qc1, xs, rfl, o1, l1, hb⟩
    have B := Lib.hid hb
    have OA := Lib.hid (o1.le (Nat.zero_le _))
    have n1 : xs.length ≤ 16777216 := by omega
    clear hb o1
    go_wp2_with (fail)
    refine (drawUni _ a0 len0 cap0 (HC.out.below (by exact (B.out.alloc B.out.size _)))).mono ?_
    rintro e w2 ⟨rB, cB, qB, qcB, zB, rfl, own, nB, hb⟩
    have nB : zB.length ≤ 16777216 := by omega
    have OA := Lib.hid ((OA.out.old _).keep hb)
    have KA : Hid (Blk3 w2 w1.heap.size 26 (.int .i64 (r)) (.int .i64 (c)) (.slice q1 xs.length qc1)) := (Blk3.at_ _ _ _ _ rfl).step hb
    have B := Lib.hid (stepB (B.out.alloc B.out.size _) hb)
    clear hb
    have OB := Lib.hid (own.le (Nat.zero_le _))
    clear own
    obtain ⟨cc1_00, cc1_01, cc1_02, -, -, -⟩ := KA.out.all
    have ll1_0 := KA.out.lt
    go_wp2_with (fail)
    obtain ⟨mP, hmP⟩ : ∃ m, mulM r c xs rB cB zB = m := ⟨_, rfl⟩
    have HmP := Lib.hid hmP
    clear hmP
    refine (iMul r c rB cB q1 qB qc1 qcB xs zB _ (OA.out.old _).rd (OB.out.old _).rd n1 nB).mono ?_
    rintro e w3 ⟨vP, rfl, own, hb⟩
    rw [HmP.out] at own ⊢
    obtain ⟨qP, qcP, rfl, -, -⟩ := own.form
    have nP := own.small
    have OA := Lib.hid ((OA.out.old _).keep hb)
    have KA := Lib.hid ((KA.out.old _).step hb)
    have OB := Lib.hid ((OB.out.old _).keep hb)
    have KB : Hid (Blk3 w3 w2.heap.size 26 (.int .i64 (rB)) (.int .i64 (cB)) (.slice qB zB.length qcB)) := (Blk3.at_ _ _ _ _ rfl).step hb
    have B := Lib.hid (stepB (B.out.alloc B.out.size _) hb)
    clear hb
    have OP := Lib.hid (own.le (Nat.zero_le _))
    clear own
    obtain ⟨cc2_00, cc2_01, cc2_02, -, -, -⟩ := KA.out.all
    have ll2_0 := KA.out.lt
    obtain ⟨cc2_10, cc2_11, cc2_12, -, -, -⟩ := KB.out.all
    have ll2_1 := KB.out.lt
    go_wp2_with (fail)
    refine (sMul r c rB cB q1 qB qc1 qcB xs zB _ (OA.out.old _).rd (OB.out.old _).rd n1 nB).mono ?_
    rintro e w4 ⟨vT, rfl, own, hb⟩
    rw [HmP.out] at own ⊢
    obtain ⟨qT, qcT, rfl, -, -⟩ := own.form
    have nT := own.small
    have OA := Lib.hid ((OA.out.old _).keep hb)
    have KA := Lib.hid ((KA.out.old _).step hb)
    have OB := Lib.hid ((OB.out.old _).keep hb)
    have KB := Lib.hid ((KB.out.old _).step hb)
    have OP := Lib.hid ((OP.out.old _).keep hb)
    have KP : Hid (Blk3 w4 w3.heap.size 26 (.int .i64 (mP.r)) (.int .i64 (mP.c)) (.slice qP mP.zs.length qcP)) := (Blk3.at_ _ _ _ _ rfl).step hb
    have B := Lib.hid (stepB (B.out.alloc B.out.size _) hb)
    clear hb
    have OT := Lib.hid (own.le (Nat.zero_le _))
    clear own
    obtain ⟨cc3_00, cc3_01, cc3_02, -, -, -⟩ := KA.out.all
    have ll3_0 := KA.out.lt
    obtain ⟨cc3_10, cc3_11, cc3_12, -, -, -⟩ := KB.out.all
    have ll3_1 := KB.out.lt
    obtain ⟨cc3_20, cc3_21, cc3_22, -, -, -⟩ := KP.out.all
    have ll3_2 := KP.out.lt
    go_wp2_with (fail)
    obtain ⟨dx, hdx⟩ : ∃ m, (detOf r c xs).1 = m := ⟨_, rfl⟩
    have Hdx := Lib.hid hdx
    clear hdx
    obtain ⟨bx, hbx⟩ : ∃ m, (detOf r c xs).2 = m := ⟨_, rfl⟩
    have Hbx := Lib.hid hbx
    clear hbx
    refine (iDetOf r c q1 qc1 xs _ (OA.out.old _).rd n1).mono ?_
    rintro e w5 ⟨rfl, hb⟩
    have OA := Lib.hid ((OA.out.old _).keep hb)
    have KA := Lib.hid ((KA.out.old _).step hb)
    have OB := Lib.hid ((OB.out.old _).keep hb)
    have KB := Lib.hid ((KB.out.old _).step hb)
    have OP := Lib.hid ((OP.out.old _).keep hb)
    have KP := Lib.hid ((KP.out.old _).step hb)
    have OT := Lib.hid ((OT.out.old _).keep hb)
    have KT : Hid (Blk3 w5 w4.heap.size 26 (.int .i64 (mP.r)) (.int .i64 (mP.c)) (.slice qT mP.zs.length qcT)) := (Blk3.at_ _ _ _ _ rfl).step hb
    have B := Lib.hid (stepB (B.out.alloc B.out.size _) hb)
    clear hb
    rw [Hdx.out, Hbx.out]
    obtain ⟨cc4_00, cc4_01, cc4_02, -, -, -⟩ := KA.out.all
    have ll4_0 := KA.out.lt
    obtain ⟨cc4_10, cc4_11, cc4_12, -, -, -⟩ := KB.out.all
    have ll4_1 := KB.out.lt
    obtain ⟨cc4_20, cc4_21, cc4_22, -, -, -⟩ := KP.out.all
    have ll4_2 := KP.out.lt
    obtain ⟨cc4_30, cc4_31, cc4_32, -, -, -⟩ := KT.out.all
    have ll4_3 := KT.out.lt
    go_wp2_with (fail)
    obtain ⟨dy, hdy⟩ : ∃ m, (detOf rB cB zB).1 = m := ⟨_, rfl⟩
    have Hdy := Lib.hid hdy
    clear hdy
    obtain ⟨bb, hbb⟩ : ∃ m, (detOf rB cB zB).2 = m := ⟨_, rfl⟩
    have Hbb := Lib.hid hbb
    clear hbb
    refine (iDetOf rB cB qB qcB zB _ OB.out.rd nB).mono ?_
    rintro e w6 ⟨rfl, hb⟩
    have OA := Lib.hid (OA.out.keep hb)
    have KA := Lib.hid (KA.out.step hb)
    have OB := Lib.hid (OB.out.keep hb)
    have KB := Lib.hid (KB.out.step hb)
    have OP := Lib.hid (OP.out.keep hb)
    have KP := Lib.hid (KP.out.step hb)
    have OT := Lib.hid (OT.out.keep hb)
    have KT := Lib.hid (KT.out.step hb)
    have B := Lib.hid (stepB B.out hb)
    clear hb
    rw [Hdy.out, Hbb.out]
    obtain ⟨cc5_00, cc5_01, cc5_02, -, -, -⟩ := KA.out.all
    have ll5_0 := KA.out.lt
    obtain ⟨cc5_10, cc5_11, cc5_12, -, -, -⟩ := KB.out.all
    have ll5_1 := KB.out.lt
    obtain ⟨cc5_20, cc5_21, cc5_22, -, -, -⟩ := KP.out.all
    have ll5_2 := KP.out.lt
    obtain ⟨cc5_30, cc5_31, cc5_32, -, -, -⟩ := KT.out.all
    have ll5_3 := KT.out.lt
    go_wp2_with (fail)
    obtain ⟨dz, hdz⟩ : ∃ m, (detOf mP.r mP.c mP.zs).1 = m := ⟨_, rfl⟩
    have Hdz := Lib.hid hdz
    clear hdz
    obtain ⟨bz, hbz⟩ : ∃ m, (detOf mP.r mP.c mP.zs).2 = m := ⟨_, rfl⟩
    have Hbz := Lib.hid hbz
    clear hbz
    refine (iDetOf mP.r mP.c qP qcP mP.zs _ OP.out.rd nP).mono ?_
    rintro e w7 ⟨rfl, hb⟩
    have OA := Lib.hid (OA.out.keep hb)
    have KA := Lib.hid (KA.out.step hb)
    have OB := Lib.hid (OB.out.keep hb)
    have KB := Lib.hid (KB.out.step hb)
    have OP := Lib.hid (OP.out.keep hb)
    have KP := Lib.hid (KP.out.step hb)
    have OT := Lib.hid (OT.out.keep hb)
    have KT := Lib.hid (KT.out.step hb)
    have B := Lib.hid (stepB B.out hb)
    clear hb
    rw [Hdz.out, Hbz.out]
    obtain ⟨cc6_00, cc6_01, cc6_02, -, -, -⟩ := KA.out.all
    have ll6_0 := KA.out.lt
    obtain ⟨cc6_10, cc6_11, cc6_12, -, -, -⟩ := KB.out.all
    have ll6_1 := KB.out.lt
    obtain ⟨cc6_20, cc6_21, cc6_22, -, -, -⟩ := KP.out.all
    have ll6_2 := KP.out.lt
    obtain ⟨cc6_30, cc6_31, cc6_32, -, -, -⟩ := KT.out.all
    have ll6_3 := KT.out.lt
    rcases Bool.eq_false_or_eq_true mP.ok with hf1 | hf1
    rotate_left
    · rw [hf1]
      obtain ⟨cc7_00, cc7_01, cc7_02, -, -, -⟩ := KA.out.all
      have ll7_0 := KA.out.lt
      obtain ⟨cc7_10, cc7_11, cc7_12, -, -, -⟩ := KB.out.all
      have ll7_1 := KB.out.lt
      obtain ⟨cc7_20, cc7_21, cc7_22, -, -, -⟩ := KP.out.all
      have ll7_2 := KP.out.lt
      obtain ⟨cc7_30, cc7_31, cc7_32, -, -, -⟩ := KT.out.all
      have ll7_3 := KT.out.lt
      go_wp2_with (fail)
      go_ret
      exact ⟨rfl, B.out⟩
    rw [hf1]
    rcases Bool.eq_false_or_eq_true bx with hf2 | hf2
    rotate_left
    · rw [hf2]
      obtain ⟨cc7_00, cc7_01, cc7_02, -, -, -⟩ := KA.out.all
      have ll7_0 := KA.out.lt
      obtain ⟨cc7_10, cc7_11, cc7_12, -, -, -⟩ := KB.out.all
      have ll7_1 := KB.out.lt
      obtain ⟨cc7_20, cc7_21, cc7_22, -, -, -⟩ := KP.out.all
      have ll7_2 := KP.out.lt
      obtain ⟨cc7_30, cc7_31, cc7_32, -, -, -⟩ := KT.out.all
      have ll7_3 := KT.out.lt
      go_wp2_with (fail)
      go_ret
      exact ⟨rfl, B.out⟩
    rw [hf2]
    rcases Bool.eq_false_or_eq_true bb with hf3 | hf3
    rotate_left
    · rw [hf3]
      obtain ⟨cc7_00, cc7_01, cc7_02, -, -, -⟩ := KA.out.all
      have ll7_0 := KA.out.lt
      obtain ⟨cc7_10, cc7_11, cc7_12, -, -, -⟩ := KB.out.all
      have ll7_1 := KB.out.lt
      obtain ⟨cc7_20, cc7_21, cc7_22, -, -, -⟩ := KP.out.all
      have ll7_2 := KP.out.lt
      obtain ⟨cc7_30, cc7_31, cc7_32, -, -, -⟩ := KT.out.all
      have ll7_3 := KT.out.lt
      go_wp2_with (fail)
      go_ret
      exact ⟨rfl, B.out⟩
    rw [hf3]
    rcases Bool.eq_false_or_eq_true bz with hf4 | hf4
    rotate_left
    · rw [hf4]
      obtain ⟨cc7_00, cc7_01, cc7_02, -, -, -⟩ := KA.out.all
      have ll7_0 := KA.out.lt
      obtain ⟨cc7_10, cc7_11, cc7_12, -, -, -⟩ := KB.out.all
      have ll7_1 := KB.out.lt
      obtain ⟨cc7_20, cc7_21, cc7_22, -, -, -⟩ := KP.out.all
      have ll7_2 := KP.out.lt
      obtain ⟨cc7_30, cc7_31, cc7_32, -, -, -⟩ := KT.out.all
      have ll7_3 := KT.out.lt
      go_wp2_with (fail)
      go_ret
      exact ⟨rfl, B.out⟩
    rw [hf4]
    obtain ⟨e, na, nb⟩ := prod_det HmP.out hf1 Hdx.out (by rw [Hbx.out]; exact hf2) Hdy.out (by rw [Hbb.out]; exact hf3) Hdz.out (by rw [Hbz.out]; exact hf4)
    have m9 := mul_num _ _ na nb
    have v9 : IntKind.i64.wrap (dx * dy) = dx * dy := IntWalk.i64_in _ (by omega)
    have n9 : (dx * dy == dz) = true := by simpa using e
    clear e na nb m9
    obtain ⟨cc7_00, cc7_01, cc7_02, -, -, -⟩ := KA.out.all
    have ll7_0 := KA.out.lt
    obtain ⟨cc7_10, cc7_11, cc7_12, -, -, -⟩ := KB.out.all
    have ll7_1 := KB.out.lt
    obtain ⟨cc7_20, cc7_21, cc7_22, -, -, -⟩ := KP.out.all
    have ll7_2 := KP.out.lt
    obtain ⟨cc7_30, cc7_31, cc7_32, -, -, -⟩ := KT.out.all
    have ll7_3 := KT.out.lt
    go_wp2_with (fail)
    go_ret
    exact ⟨rfl, B.out⟩
  · have hbig' : 1048576 < len0 := by omega
    clear hbig
    go_enter Try.func13, Try.ntmps13
    go_wp2_with (fail)
    refine (big_yes w a0 len0 cap0 hbig').mono ?_
    rintro e w1 ⟨rfl, rfl⟩
    go_wp2_with (fail)
    go_ret
    exact ⟨rfl, Below.refl _ _⟩

/-! ### The row's step -/
set_option maxRecDepth 100000 in
theorem lifted (os : Os) (started : os.Started) (H : Type) (enc : TypeId × Value → H) :
    ReturnsInHanded {} Try.checked os 13 .any (Rows.fnProductsSpec.pre6 enc Try.prog Try.f13 Rows.fnProductsRow.domain false) (Rows.fnProductsSpec.post enc Try.prog Try.f13 false true false false) := by
  refine returnsInHanded_of_change (C := Try.checked) own started (by kernel_rfl) Try.func13
    (ChangeSpec.witness6 (enc := enc) (C := Try.checked) false ⟨#[], #[.slice none 0 0], []⟩ 8 (by kernel_rfl) (by kernel_rfl) (by kernel_rfl) (by kernel_rfl)) ?_
  intro W base args ds gs before hval0 hW hcnd _
  have hval : ∀ (j : Nat) t v, Try.f13.params[j]? = some t → args[j]? = some v → Value.okWide Try.prog W .any base t v := hval0
  have hW' := hW
  obtain ⟨p, q, hA0, hV, rfl, hfz, hnd⟩ := hW
  have hA : DataW.TrodAll enc Try.prog W 0 (fun _ => true) true Try.f13.params.toList args.toList ds p := hA0
  rw [Try.params13] at hA hval
  obtain ⟨v0, vs0, d0, ds0, p0, q0, hargs, rfl, rfl, h0, r0⟩ := trodAll_cons hA
  obtain ⟨rfl, rfl, rfl⟩ := trodAll_nil r0
  obtain rfl : args = #[v0] := by cases args; simp_all
  obtain ⟨rfl, rfl⟩ := trodVars_none hV
  have k0 := h0
  have lt0 : ∀ x ∈ p0, x.block < W.heap.size := by obtain ⟨m, hm⟩ := k0; exact DataW.trod_lt m _ _ _ hm
  obtain ⟨a0, len0, cap0, rfl⟩ := okWide_slice Try.underlying41 (hval 0 41 v0 rfl rfl)
  obtain ⟨fuel0, hf0⟩ := h0
  obtain ⟨z0, w0⟩ : ∃ zs, IsRow .u8 W a0 len0 cap0 zs := isRow_of Try.underlying41 Try.underlying5 (by kernel_rfl) (by simpa [Value.cells] using hf0)
  clear hA0 hval0
  refine (walk a0 len0 cap0 z0 W w0).mono fun e W' ⟨he, bel⟩ => ?_
  subst he
  exact ⟨_, rfl, _, _, _, [], _, [], hW', trodAll_mk1 (shut_bool Try.underlying4 _), (trodAll_cons_mk (Below.trod laidOut (by kernel_rfl) (of_decide_eq_true (by kernel_rfl)) k0 bel lt0) trodAll_mk0), rfl, bel.frame _, fun h => by cases h⟩

theorem over : Rows.fnProductsRow.holds Try.pinned (OpenSpec.ofChange Rows.fnProductsSpec) :=
  OpenClaim.holds_of_wide 13 Try.f13 rfl rfl rfl rfl rfl rfl rfl ⟨rfl, rfl, rfl, rfl, rfl⟩ rfl rfl rfl rfl rfl (by kernel_rfl) Try.func13 (by kernel_rfl)
    (of_decide_eq_true (by kernel_rfl)) (by unfold Func.isWrapper; first | (rw [if_pos (by decide +kernel)]; kernel_rfl) | (rw [if_neg (by decide +kernel)]; exact ⟨rfl, rfl⟩))
    (fun os started H enc _ => lifted os started H enc)

/-- ████ THE STATEMENT ████ -/
theorem proved : Rows.FnProductsSaid := over
#print axioms proved
end Go.Proofs.Ytpelnfenfeoeeaa.fnProducts
