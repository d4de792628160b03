/-
  Proved: for every code, the law FnImages returns true: a determinant over residues is the image of the determinant, it is 0 exactly if the rank is not full, and the rank over residues is at most the rank, wherever they are found.
  Conditions: none beyond the row's own (the argument reads as data).
-/
import Derived.Test.YtncplikadacjnaaRows
import Derived.ChangeOld
import Derived.Below
import Derived.Deep.RegionHeld3
import Derived.Deep.DeepCutAuto
import Derived.WalkKit
import Derived.ProofKit
import Derived.OpenShut
import Derived.ShutString
import Derived.Carry
import Derived.Lib.SmallJoins
import Derived.Test.YtncplikadacjnaaPk1
import Derived.Test.YtncplikadacjnaaPk7
import Derived.Test.YtncplikadacjnaaPk8
import Derived.Test.YtncplikadacjnaaPk11
import Derived.Test.YtncplikadacjnaaPk12
import Derived.Test.YtncplikadacjnaaPk13

namespace Go.Proofs.Ytncplikadacjnaa.fnImages
open Go.ChangeShapes Go.WideShapes Go.ChangeAt Go.RowKit
open Go.ChangeMaps (open_string shut_string)
set_option linter.unusedVariables false

theorem own : ownKnob Try.prog.godebug = none := by kernel_rfl
theorem laidOut : laidOutB Try.prog = true := by kernel_rfl

/-- What the walk is told of a slice of integers that came in: it is nil; or it leads to a row of 'cap' cells, the numbers 'zs' (the first 'len' are its elements), each fitting its kind. -/
def IsRow (k : IntKind) (w : World) (a : Option Addr) (len cap : Nat) (zs : List Int) : Prop :=
  (a = none ∧ len = 0 ∧ cap = 0 ∧ zs = []) ∨
  ∃ x, a = some x ∧ len ≤ cap ∧ cap ≤ maxLen ∧ zs.length = cap ∧ (∀ i, i < zs.length → w.cell? (x.add i) = some (.int k (zs.getD i 0))) ∧ ∀ n ∈ zs, (Lit.int k n).wf = true
theorem isRow_of {H : Type} {enc : TypeId × Value → H} {P : Program} {W : World} {base : Nat} {held : Bool} {t e : TypeId} {k : IntKind} {a : Option Addr} {len cap fuel : Nat} {x : DataW H × List MemPlace}
    (ht : P.underlying t = some (.slice e)) (he : P.underlying e = some (.int k)) (hc : P.cellsOf e = 1) (hf : DataW.trod enc P W base (fun _ => true) held fuel t [.slice a len cap] = some x) : ∃ zs, IsRow k W a len cap zs := by
  rcases open_ints ht he hc hf with ⟨hcs, _⟩ | ⟨x, l, c, zs, hcs, _, hl, hm, hz, _, hcell, hwz⟩
  · simp at hcs
    obtain ⟨rfl, rfl, rfl⟩ := hcs
    exact ⟨[], .inl ⟨rfl, rfl, rfl, rfl⟩⟩
  · simp at hcs
    obtain ⟨rfl, rfl, rfl⟩ := hcs
    exact ⟨zs, .inr ⟨_, rfl, hl, hm, by simpa using hz, hcell, hwz⟩⟩
theorem _root_.Go.Proofs.Ytncplikadacjnaa.Own.old {B : Nat} {w : World} {v : Value} {zs : List Int} (h : Own B w v zs) (o : Obj) : Own B (w.alloc o) v zs := h.keep ((Below.refl _ _).alloc (Nat.le_refl _) o)
theorem _root_.Go.Proofs.Ytncplikadacjnaa.Own.rd {B : Nat} {w : World} {a : Option Addr} {n cap : Nat} {zs : List Int} (h : Own B w (.slice a n cap) zs) : Rd w a zs := by
  obtain ⟨a', c', e, hr, -⟩ := h.form
  injection e with e1 e2 e3
  rw [e1]; exact hr
theorem own_spot8 {B n c : Nat} {w : World} {a : Option Addr} {zs : List Int} (h : Own B w (.slice a n c) zs) : Spot a := by
  rcases h with ⟨hv, -⟩ | ⟨g, cap, hv, -⟩
  · simp only [Value.slice.injEq] at hv
    exact .inl hv.1
  · simp only [Value.slice.injEq] at hv
    exact .inr ⟨_, _, hv.1⟩
theorem dtM_zero {r c p : Int} {xs : List Int} (h : (dtM r c p xs).2 = false) : (dtM r c p xs).1 = 0 := by
  unfold dtM at h ⊢
  split at h
  · simp at h
  · rename_i h1
    rw [if_neg h1]
theorem codeIn_of_row {w : World} {a : Option Addr} {len cap : Nat} {zs : List Int} (h : IsRow .u8 w a len cap zs) : CodeIn w a len := by
  rcases h with ⟨rfl, rfl, rfl, rfl⟩ | ⟨x, rfl, hl, hm, hz, hcell, hwf⟩
  · exact codeIn_none w
  · exact codeIn_some hl hm hz hcell hwf
set_option maxRecDepth 100000 in
set_option maxHeartbeats 16000000 in

theorem walk (a0 : Option Addr) (len0 cap0 : Nat) (z0 : List Int) (w : World) (w0 : IsRow .u8 w a0 len0 cap0 z0) :
    Calls Try.prog 3 #[.slice a0 len0 cap0] w fun e w' => e = .returned (.bool true) ∧ Below w.heap.size w w' := by
  have hc : CodeIn w a0 len0 := codeIn_of_row w0
  have hl := hc.1
  have HC := Lib.hid hc
  clear w0 hc
  unfold maxLen at hl
  by_cases hbig : len0 ≤ 1048576
  · go_enter Try.func3, Try.ntmps3
    go_wp2_with (fail)
    refine (big_no w a0 len0 cap0 hbig).mono ?_
    rintro e w1 ⟨rfl, rfl⟩
    go_wp2_with (fail)
    refine (drawDetM w a0 len0 cap0 HC.out).mono ?_
    rintro e w1 ⟨r, c, q1, qc1, xs, p, rfl, o1, l1, ⟨p0, p1⟩, hb⟩
    have B := Lib.hid hb
    have SP := Lib.hid (own_spot8 o1)
    have OA := Lib.hid (o1.le (Nat.zero_le _))
    have n1 : xs.length ≤ 16777216 := by omega
    clear hb o1
    go_wp2_with (fail)
    obtain ⟨d, hd⟩ : ∃ m, (dtM r c p xs).1 = m := ⟨_, rfl⟩
    have Hd := Lib.hid hd
    clear hd
    obtain ⟨bd, hbd⟩ : ∃ m, (dtM r c p xs).2 = m := ⟨_, rfl⟩
    have Hbd := Lib.hid hbd
    clear hbd
    refine (iDetM r c p q1 qc1 xs _ (OA.out.old _).rd n1).mono ?_
    rintro e w2 ⟨rfl, hb⟩
    have OA := Lib.hid ((OA.out.old _).keep hb)
    have KA : Hid (Blk3 w2 w1.heap.size 26 (.int .i64 (r)) (.int .i64 (c)) (.slice q1 xs.length qc1)) := (Blk3.at_ _ _ _ _ rfl).step hb
    have B := Lib.hid (stepB (B.out.alloc B.out.size _) hb)
    clear hb
    rw [Hd.out, Hbd.out]
    obtain ⟨cc1_00, cc1_01, cc1_02, -, -, -⟩ := KA.out.all
    have ll1_0 := KA.out.lt
    go_wp2_with (fail)
    refine (sDetM r c p q1 qc1 xs _ OA.out.rd n1 SP.out).mono ?_
    rintro e w3 ⟨rfl, hb⟩
    have OA := Lib.hid (OA.out.keep hb)
    have KA := Lib.hid (KA.out.step hb)
    have B := Lib.hid (stepB B.out hb)
    clear hb
    rw [Hd.out, Hbd.out]
    obtain ⟨cc2_00, cc2_01, cc2_02, -, -, -⟩ := KA.out.all
    have ll2_0 := KA.out.lt
    rcases Bool.eq_false_or_eq_true bd with hf | hf
    rotate_left
    · rw [hf]
      have z0 : d = 0 := by rw [← Hd.out]; exact dtM_zero (by rw [Hbd.out]; exact hf)
      subst z0
      obtain ⟨cc3_00, cc3_01, cc3_02, -, -, -⟩ := KA.out.all
      have ll3_0 := KA.out.lt
      go_wp2_with (fail)
      go_ret
      exact ⟨rfl, B.out⟩
    rw [hf]
    obtain ⟨f1, f2, f3, f4, f5, f6, f7, f8, f9⟩ := img_says (r := r) (c := c) (p := p) (xs := xs) (by rw [Hbd.out]; exact hf)
    rw [Hd.out] at f5 f6 f7 f8
    clear p0 p1
    have F3 := Lib.hid f3
    have F7 := Lib.hid f7
    have F8 := Lib.hid f8
    have F9 := Lib.hid f9
    have G5 := Lib.hid f5
    have G6 := Lib.hid f6
    have G4 := Lib.hid f4
    clear f3 f4 f5 f6 f7 f8 f9
    obtain ⟨cc3_00, cc3_01, cc3_02, -, -, -⟩ := KA.out.all
    have ll3_0 := KA.out.lt
    go_wp2_with (fail)
    obtain ⟨e, he⟩ : ∃ m, (detOf r c xs).1 = m := ⟨_, rfl⟩
    have He := Lib.hid he
    clear he
    obtain ⟨be, hbe⟩ : ∃ m, (detOf r c xs).2 = m := ⟨_, rfl⟩
    have Hbe := Lib.hid hbe
    clear hbe
    refine (iDetOf r c q1 qc1 xs _ OA.out.rd n1).mono ?_
    rintro e w4 ⟨rfl, hb⟩
    have OA := Lib.hid (OA.out.keep hb)
    have KA := Lib.hid (KA.out.step hb)
    have B := Lib.hid (stepB B.out hb)
    clear hb
    rw [He.out, Hbe.out]
    obtain ⟨cc4_00, cc4_01, cc4_02, -, -, -⟩ := KA.out.all
    have ll4_0 := KA.out.lt
    go_wp2_with (fail)
    obtain ⟨n, hn⟩ : ∃ m, (rkM r c p xs).1 = m := ⟨_, rfl⟩
    have Hn := Lib.hid hn
    clear hn
    refine (iRank r c p q1 qc1 xs _ OA.out.rd n1).mono ?_
    rintro e w5 ⟨rfl, hb⟩
    have OA := Lib.hid (OA.out.keep hb)
    have KA := Lib.hid (KA.out.step hb)
    have B := Lib.hid (stepB B.out hb)
    clear hb
    rw [Hn.out, F3.out]
    obtain ⟨cc5_00, cc5_01, cc5_02, -, -, -⟩ := KA.out.all
    have ll5_0 := KA.out.lt
    go_wp2_with (fail)
    obtain ⟨eX, heX⟩ : ∃ m, echR r c xs = m := ⟨_, rfl⟩
    have HeX := Lib.hid heX
    clear heX
    refine (iRankOf r c q1 qc1 xs _ OA.out.rd n1).mono ?_
    rintro e w6 ⟨rfl, hb⟩
    have OA := Lib.hid (OA.out.keep hb)
    have KA := Lib.hid (KA.out.step hb)
    have B := Lib.hid (stepB B.out hb)
    clear hb
    rw [HeX.out]
    obtain ⟨cc6_00, cc6_01, cc6_02, -, -, -⟩ := KA.out.all
    have ll6_0 := KA.out.lt
    rcases Bool.eq_false_or_eq_true be with hE | hE
    rotate_left
    · rw [hE]
      rcases Bool.eq_false_or_eq_true eX.ok with hX | hX
      rotate_left
      · rw [hX]
        have y7 : (d == 0) = decide (n < r) := by have := F7.out; rw [Hn.out] at this; exact this
        have y5 := G5.out
        have y6 := G6.out
        have y0 : (p == 0) = false := by simp; omega
        obtain ⟨cc7_00, cc7_01, cc7_02, -, -, -⟩ := KA.out.all
        have ll7_0 := KA.out.lt
        go_wp2_with (fail)
        go_ret
        exact ⟨rfl, B.out⟩
      rw [hX]
      have y7 : (d == 0) = decide (n < r) := by have := F7.out; rw [Hn.out] at this; exact this
      have y5 := G5.out
      have y6 := G6.out
      have y0 : (p == 0) = false := by simp; omega
      have yx := F9.out (by rw [HeX.out]; exact hX)
      rw [HeX.out, Hn.out] at yx
      obtain ⟨cc7_00, cc7_01, cc7_02, -, -, -⟩ := KA.out.all
      have ll7_0 := KA.out.lt
      go_wp2_with (fail)
      go_ret
      exact ⟨rfl, B.out⟩
    rw [hE]
    rcases Bool.eq_false_or_eq_true eX.ok with hX | hX
    rotate_left
    · rw [hX]
      have y7 : (d == 0) = decide (n < r) := by have := F7.out; rw [Hn.out] at this; exact this
      have y5 := G5.out
      have y6 := G6.out
      have y0 : (p == 0) = false := by simp; omega
      obtain ⟨ne, me⟩ := F8.out (by rw [Hbe.out]; exact hE)
      rw [He.out] at ne me
      unfold NumP at ne
      have ve : IntKind.i64.wrap (e - d) = e - d := IntWalk.i64_in _ (by omega)
      obtain ⟨cc7_00, cc7_01, cc7_02, -, -, -⟩ := KA.out.all
      have ll7_0 := KA.out.lt
      go_wp2_with (fail)
      go_ret
      exact ⟨rfl, B.out⟩
    rw [hX]
    have y7 : (d == 0) = decide (n < r) := by have := F7.out; rw [Hn.out] at this; exact this
    have y5 := G5.out
    have y6 := G6.out
    have y0 : (p == 0) = false := by simp; omega
    obtain ⟨ne, me⟩ := F8.out (by rw [Hbe.out]; exact hE)
    rw [He.out] at ne me
    unfold NumP at ne
    have ve : IntKind.i64.wrap (e - d) = e - d := IntWalk.i64_in _ (by omega)
    have yx := F9.out (by rw [HeX.out]; exact hX)
    rw [HeX.out, Hn.out] at yx
    obtain ⟨cc7_00, cc7_01, cc7_02, -, -, -⟩ := KA.out.all
    have ll7_0 := KA.out.lt
    go_wp2_with (fail)
    go_ret
    exact ⟨rfl, B.out⟩
  · have hbig' : 1048576 < len0 := by omega
    clear hbig
    go_enter Try.func3, Try.ntmps3
    go_wp2_with (fail)
    refine (big_yes w a0 len0 cap0 hbig').mono ?_
    rintro e w1 ⟨rfl, rfl⟩
    go_wp2_with (fail)
    go_ret
    exact ⟨rfl, Below.refl _ _⟩

/-! ### The row's step -/
set_option maxRecDepth 100000 in
theorem lifted (os : Os) (started : os.Started) (H : Type) (enc : TypeId × Value → H) :
    ReturnsInHanded {} Try.checked os 3 .any (Rows.fnImagesSpec.pre6 enc Try.prog Try.f3 Rows.fnImagesRow.domain false) (Rows.fnImagesSpec.post enc Try.prog Try.f3 false true false false) := by
  refine returnsInHanded_of_change (C := Try.checked) own started (by kernel_rfl) Try.func3
    (ChangeSpec.witness6 (enc := enc) (C := Try.checked) false ⟨#[], #[.slice none 0 0], []⟩ 8 (by kernel_rfl) (by kernel_rfl) (by kernel_rfl) (by kernel_rfl)) ?_
  intro W base args ds gs before hval0 hW hcnd _
  have hval : ∀ (j : Nat) t v, Try.f3.params[j]? = some t → args[j]? = some v → Value.okWide Try.prog W .any base t v := hval0
  have hW' := hW
  obtain ⟨p, q, hA0, hV, rfl, hfz, hnd⟩ := hW
  have hA : DataW.TrodAll enc Try.prog W 0 (fun _ => true) true Try.f3.params.toList args.toList ds p := hA0
  rw [Try.params3] at hA hval
  obtain ⟨v0, vs0, d0, ds0, p0, q0, hargs, rfl, rfl, h0, r0⟩ := trodAll_cons hA
  obtain ⟨rfl, rfl, rfl⟩ := trodAll_nil r0
  obtain rfl : args = #[v0] := by cases args; simp_all
  obtain ⟨rfl, rfl⟩ := trodVars_none hV
  have k0 := h0
  have lt0 : ∀ x ∈ p0, x.block < W.heap.size := by obtain ⟨m, hm⟩ := k0; exact DataW.trod_lt m _ _ _ hm
  obtain ⟨a0, len0, cap0, rfl⟩ := okWide_slice Try.underlying22 (hval 0 22 v0 rfl rfl)
  obtain ⟨fuel0, hf0⟩ := h0
  obtain ⟨z0, w0⟩ : ∃ zs, IsRow .u8 W a0 len0 cap0 zs := isRow_of Try.underlying22 Try.underlying5 (by kernel_rfl) (by simpa [Value.cells] using hf0)
  clear hA0 hval0
  refine (walk a0 len0 cap0 z0 W w0).mono fun e W' ⟨he, bel⟩ => ?_
  subst he
  exact ⟨_, rfl, _, _, _, [], _, [], hW', trodAll_mk1 (shut_bool Try.underlying4 _), (trodAll_cons_mk (Below.trod laidOut (by kernel_rfl) (of_decide_eq_true (by kernel_rfl)) k0 bel lt0) trodAll_mk0), rfl, bel.frame _, fun h => by cases h⟩

theorem over : Rows.fnImagesRow.holds Try.pinned (OpenSpec.ofChange Rows.fnImagesSpec) :=
  OpenClaim.holds_of_wide 3 Try.f3 rfl rfl rfl rfl rfl rfl rfl ⟨rfl, rfl, rfl, rfl, rfl⟩ rfl rfl rfl rfl rfl (by kernel_rfl) Try.func3 (by kernel_rfl)
    (of_decide_eq_true (by kernel_rfl)) (by unfold Func.isWrapper; first | (rw [if_pos (by decide +kernel)]; kernel_rfl) | (rw [if_neg (by decide +kernel)]; exact ⟨rfl, rfl⟩))
    (fun os started H enc _ => lifted os started H enc)

/-- ████ THE STATEMENT ████ -/
theorem proved : Rows.FnImagesSaid := over
#print axioms proved
end Go.Proofs.Ytncplikadacjnaa.fnImages
