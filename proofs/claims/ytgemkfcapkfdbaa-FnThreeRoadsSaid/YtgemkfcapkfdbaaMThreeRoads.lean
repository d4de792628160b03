/-
  Proved: for every code, the law FnThreeRoads returns true: determinants by expansion, by steps and by images agree wherever they are found, and none is greater than the product of the rows.
  Conditions: none beyond the row's own (the argument reads as data).
-/
import Derived.Test.YtgemkfcapkfdbaaRows
import Derived.ChangeOld
import Derived.Below
import Derived.Deep.RegionHeld3
import Derived.Deep.DeepCutAuto
import Derived.WalkKit
import Derived.ProofKit
import Derived.OpenShut
import Derived.ShutString
import Derived.Carry
import Derived.Lib.SmallJoins
import Derived.Test.YtgemkfcapkfdbaaPk1
import Derived.Test.YtgemkfcapkfdbaaPk14
import Derived.Test.YtgemkfcapkfdbaaPk15
import Derived.Test.YtgemkfcapkfdbaaPk17
import Derived.Test.YtgemkfcapkfdbaaPk18

namespace Go.Proofs.Ytgemkfcapkfdbaa.fnThreeRoads
open Go.ChangeShapes Go.WideShapes Go.ChangeAt Go.RowKit
open Go.ChangeMaps (open_string shut_string)
set_option linter.unusedVariables false

theorem own : ownKnob Try.prog.godebug = none := by kernel_rfl
theorem laidOut : laidOutB Try.prog = true := by kernel_rfl

/-- What the walk is told of a slice of integers that came in: it is nil; or it leads to a row of 'cap' cells, the numbers 'zs' (the first 'len' are its elements), each fitting its kind. -/
def IsRow (k : IntKind) (w : World) (a : Option Addr) (len cap : Nat) (zs : List Int) : Prop :=
  (a = none ∧ len = 0 ∧ cap = 0 ∧ zs = []) ∨
  ∃ x, a = some x ∧ len ≤ cap ∧ cap ≤ maxLen ∧ zs.length = cap ∧ (∀ i, i < zs.length → w.cell? (x.add i) = some (.int k (zs.getD i 0))) ∧ ∀ n ∈ zs, (Lit.int k n).wf = true
theorem isRow_of {H : Type} {enc : TypeId × Value → H} {P : Program} {W : World} {base : Nat} {held : Bool} {t e : TypeId} {k : IntKind} {a : Option Addr} {len cap fuel : Nat} {x : DataW H × List MemPlace}
    (ht : P.underlying t = some (.slice e)) (he : P.underlying e = some (.int k)) (hc : P.cellsOf e = 1) (hf : DataW.trod enc P W base (fun _ => true) held fuel t [.slice a len cap] = some x) : ∃ zs, IsRow k W a len cap zs := by
  rcases open_ints ht he hc hf with ⟨hcs, _⟩ | ⟨x, l, c, zs, hcs, _, hl, hm, hz, _, hcell, hwz⟩
  · simp at hcs
    obtain ⟨rfl, rfl, rfl⟩ := hcs
    exact ⟨[], .inl ⟨rfl, rfl, rfl, rfl⟩⟩
  · simp at hcs
    obtain ⟨rfl, rfl, rfl⟩ := hcs
    exact ⟨zs, .inr ⟨_, rfl, hl, hm, by simpa using hz, hcell, hwz⟩⟩
theorem _root_.Go.Proofs.Ytgemkfcapkfdbaa.Own.old {B : Nat} {w : World} {v : Value} {zs : List Int} (h : Own B w v zs) (o : Obj) : Own B (w.alloc o) v zs := h.keep ((Below.refl _ _).alloc (Nat.le_refl _) o)
theorem _root_.Go.Proofs.Ytgemkfcapkfdbaa.Own.rd {B : Nat} {w : World} {a : Option Addr} {n cap : Nat} {zs : List Int} (h : Own B w (.slice a n cap) zs) : Rd w a zs := by
  obtain ⟨a', c', e, hr, -⟩ := h.form
  injection e with e1 e2 e3
  rw [e1]; exact hr
theorem codeIn_of_row {w : World} {a : Option Addr} {len cap : Nat} {zs : List Int} (h : IsRow .u8 w a len cap zs) : CodeIn w a len := by
  rcases h with ⟨rfl, rfl, rfl, rfl⟩ | ⟨x, rfl, hl, hm, hz, hcell, hwf⟩
  · exact codeIn_none w
  · exact codeIn_some hl hm hz hcell hwf
set_option maxRecDepth 100000 in
set_option maxHeartbeats 16000000 in

theorem walk (a0 : Option Addr) (len0 cap0 : Nat) (z0 : List Int) (w : World) (w0 : IsRow .u8 w a0 len0 cap0 z0) :
    Calls Try.prog 4 #[.slice a0 len0 cap0] w fun e w' => e = .returned (.bool true) ∧ Below w.heap.size w w' := by
  have hc : CodeIn w a0 len0 := codeIn_of_row w0
  have hl := hc.1
  have HC := Lib.hid hc
  clear w0 hc
  unfold maxLen at hl
  by_cases hbig : len0 ≤ 1048576
  · go_enter Try.func4, Try.ntmps4
    go_wp2_with (fail)
    refine (big_no w a0 len0 cap0 hbig).mono ?_
    rintro e w1 ⟨rfl, rfl⟩
    go_wp2_with (fail)
    refine (drawImg w a0 len0 cap0 HC.out).mono ?_
    rintro e w1 ⟨r, c, q1, qc1, xs, rfl, o1, l1, hb⟩
    have B := Lib.hid hb
    have SP := Lib.hid (own_cap o1).2
    have OA := Lib.hid (o1.le (Nat.zero_le _))
    have n1 : xs.length ≤ 16777216 := by omega
    clear hb o1
    go_wp2_with (fail)
    obtain ⟨d, hd⟩ : ∃ m, (detOf r c xs).1 = m := ⟨_, rfl⟩
    have Hd := Lib.hid hd
    clear hd
    obtain ⟨b1, hb1⟩ : ∃ m, (detOf r c xs).2 = m := ⟨_, rfl⟩
    have Hb1 := Lib.hid hb1
    clear hb1
    refine (iDetOf r c q1 qc1 xs _ (OA.out.old _).rd n1).mono ?_
    rintro e w2 ⟨rfl, hb⟩
    have OA := Lib.hid ((OA.out.old _).keep hb)
    have KA : Hid (Blk3 w2 w1.heap.size 34 (.int .i64 (r)) (.int .i64 (c)) (.slice q1 xs.length qc1)) := (Blk3.at_ _ _ _ _ rfl).step hb
    have B := Lib.hid (stepB (B.out.alloc B.out.size _) hb)
    clear hb
    rw [Hd.out, Hb1.out]
    obtain ⟨cc1_00, cc1_01, cc1_02, -, -, -⟩ := KA.out.all
    have ll1_0 := KA.out.lt
    go_wp2_with (fail)
    refine (sDetOf r c q1 qc1 xs _ OA.out.rd n1).mono ?_
    rintro e w3 ⟨rfl, hb⟩
    have OA := Lib.hid (OA.out.keep hb)
    have KA := Lib.hid (KA.out.step hb)
    have B := Lib.hid (stepB B.out hb)
    clear hb
    rw [Hd.out, Hb1.out]
    obtain ⟨cc2_00, cc2_01, cc2_02, -, -, -⟩ := KA.out.all
    have ll2_0 := KA.out.lt
    go_wp2_with (fail)
    obtain ⟨e0, he0⟩ : ∃ m, (stepsOf r c xs).1 = m := ⟨_, rfl⟩
    have He0 := Lib.hid he0
    clear he0
    obtain ⟨b2, hb2⟩ : ∃ m, (stepsOf r c xs).2 = m := ⟨_, rfl⟩
    have Hb2 := Lib.hid hb2
    clear hb2
    refine (iSteps r c q1 qc1 xs _ OA.out.rd n1 SP.out).mono ?_
    rintro e w4 ⟨rfl, hb⟩
    have OA := Lib.hid (OA.out.keep hb)
    have KA := Lib.hid (KA.out.step hb)
    have B := Lib.hid (stepB B.out hb)
    clear hb
    rw [He0.out, Hb2.out]
    obtain ⟨cc3_00, cc3_01, cc3_02, -, -, -⟩ := KA.out.all
    have ll3_0 := KA.out.lt
    go_wp2_with (fail)
    obtain ⟨f, hf⟩ : ∃ m, (imX r c xs).1 = m := ⟨_, rfl⟩
    have Hf := Lib.hid hf
    clear hf
    obtain ⟨b3, hb3⟩ : ∃ m, (imX r c xs).2 = m := ⟨_, rfl⟩
    have Hb3 := Lib.hid hb3
    clear hb3
    refine (iImg r c q1 qc1 xs _ OA.out.rd n1).mono ?_
    rintro e w5 ⟨rfl, hb⟩
    have OA := Lib.hid (OA.out.keep hb)
    have KA := Lib.hid (KA.out.step hb)
    have B := Lib.hid (stepB B.out hb)
    clear hb
    rw [Hf.out, Hb3.out]
    obtain ⟨cc4_00, cc4_01, cc4_02, -, -, -⟩ := KA.out.all
    have ll4_0 := KA.out.lt
    go_wp2_with (fail)
    obtain ⟨g, hg⟩ : ∃ m, (bndX r c xs).1 = m := ⟨_, rfl⟩
    have Hg := Lib.hid hg
    clear hg
    obtain ⟨b4, hb4⟩ : ∃ m, (bndX r c xs).2 = m := ⟨_, rfl⟩
    have Hb4 := Lib.hid hb4
    clear hb4
    refine (iBnd r c q1 qc1 xs _ OA.out.rd n1).mono ?_
    rintro e w6 ⟨rfl, hb⟩
    have OA := Lib.hid (OA.out.keep hb)
    have KA := Lib.hid (KA.out.step hb)
    have B := Lib.hid (stepB B.out hb)
    clear hb
    rw [Hg.out, Hb4.out]
    obtain ⟨cc5_00, cc5_01, cc5_02, -, -, -⟩ := KA.out.all
    have ll5_0 := KA.out.lt
    obtain ⟨ds1, ds2⟩ := det_small Hd.out
    rcases Bool.eq_false_or_eq_true b1 with h1 | h1
    rotate_left
    · rcases Bool.eq_false_or_eq_true b2 with h2 | h2
      rotate_left
      · rcases Bool.eq_false_or_eq_true b3 with h3 | h3
        rotate_left
        · rcases Bool.eq_false_or_eq_true b4 with h4 | h4
          rotate_left
          · rw [h1, h2, h3, h4]
            obtain ⟨cc6_00, cc6_01, cc6_02, -, -, -⟩ := KA.out.all
            have ll6_0 := KA.out.lt
            go_wp2_with (fail)
            go_ret
            exact ⟨rfl, B.out⟩
          rw [h1, h2, h3, h4]
          obtain ⟨cc6_00, cc6_01, cc6_02, -, -, -⟩ := KA.out.all
          have ll6_0 := KA.out.lt
          go_wp2_with (fail)
          go_ret
          exact ⟨rfl, B.out⟩
        rcases Bool.eq_false_or_eq_true b4 with h4 | h4
        rotate_left
        · exact absurd (roads_four (by rw [Hb3.out]; exact h3)) (by rw [Hb4.out, h4]; decide)
        rw [h1, h2, h3, h4]
        obtain ⟨cc6_00, cc6_01, cc6_02, -, -, -⟩ := KA.out.all
        have ll6_0 := KA.out.lt
        go_wp2_with (fail)
        go_ret
        exact ⟨rfl, B.out⟩
      rcases Bool.eq_false_or_eq_true b3 with h3 | h3
      rotate_left
      · rcases Bool.eq_false_or_eq_true b4 with h4 | h4
        rotate_left
        · rw [h1, h2, h3, h4]
          obtain ⟨cc6_00, cc6_01, cc6_02, -, -, -⟩ := KA.out.all
          have ll6_0 := KA.out.lt
          go_wp2_with (fail)
          go_ret
          exact ⟨rfl, B.out⟩
        rw [h1, h2, h3, h4]
        obtain ⟨cc6_00, cc6_01, cc6_02, -, -, -⟩ := KA.out.all
        have ll6_0 := KA.out.lt
        go_wp2_with (fail)
        go_ret
        exact ⟨rfl, B.out⟩
      rcases Bool.eq_false_or_eq_true b4 with h4 | h4
      rotate_left
      · have w4 : (e0 == f) = true := by rw [← Hf.out]; simpa using roads_steps He0.out (by rw [Hb2.out]; exact h2) (by rw [Hb3.out]; exact h3)
        exact absurd (roads_four (by rw [Hb3.out]; exact h3)) (by rw [Hb4.out, h4]; decide)
      have w4 : (e0 == f) = true := by rw [← Hf.out]; simpa using roads_steps He0.out (by rw [Hb2.out]; exact h2) (by rw [Hb3.out]; exact h3)
      rw [h1, h2, h3, h4]
      obtain ⟨cc6_00, cc6_01, cc6_02, -, -, -⟩ := KA.out.all
      have ll6_0 := KA.out.lt
      go_wp2_with (fail)
      go_ret
      exact ⟨rfl, B.out⟩
    rcases Bool.eq_false_or_eq_true b2 with h2 | h2
    rotate_left
    · rcases Bool.eq_false_or_eq_true b3 with h3 | h3
      rotate_left
      · rcases Bool.eq_false_or_eq_true b4 with h4 | h4
        rotate_left
        · rw [h1, h2, h3, h4]
          obtain ⟨cc6_00, cc6_01, cc6_02, -, -, -⟩ := KA.out.all
          have ll6_0 := KA.out.lt
          go_wp2_with (fail)
          go_ret
          exact ⟨rfl, B.out⟩
        have w5 : (d.natAbs : Int) ≤ g := by rw [← Hg.out]; exact roads_bound Hd.out (by rw [Hb1.out]; exact h1) (by rw [Hb4.out]; exact h4)
        rw [h1, h2, h3, h4]
        obtain ⟨cc6_00, cc6_01, cc6_02, -, -, -⟩ := KA.out.all
        have ll6_0 := KA.out.lt
        go_wp2_with (fail)
        refine (lAbs9 d _ (by omega) (by omega)).mono ?_
        rintro e w7 ⟨rfl, rfl⟩
        have w6 : decide ((d.natAbs : Int) ≤ g) = true := by simpa using w5
        go_wp2_with (fail)
        go_ret
        exact ⟨rfl, B.out⟩
      rcases Bool.eq_false_or_eq_true b4 with h4 | h4
      rotate_left
      · have w3 : (d == f) = true := by rw [← Hf.out]; simpa using roads_image Hd.out (by rw [Hb1.out]; exact h1) (by rw [Hb3.out]; exact h3)
        exact absurd (roads_four (by rw [Hb3.out]; exact h3)) (by rw [Hb4.out, h4]; decide)
      have w3 : (d == f) = true := by rw [← Hf.out]; simpa using roads_image Hd.out (by rw [Hb1.out]; exact h1) (by rw [Hb3.out]; exact h3)
      have w5 : (d.natAbs : Int) ≤ g := by rw [← Hg.out]; exact roads_bound Hd.out (by rw [Hb1.out]; exact h1) (by rw [Hb4.out]; exact h4)
      rw [h1, h2, h3, h4]
      obtain ⟨cc6_00, cc6_01, cc6_02, -, -, -⟩ := KA.out.all
      have ll6_0 := KA.out.lt
      go_wp2_with (fail)
      refine (lAbs9 d _ (by omega) (by omega)).mono ?_
      rintro e w7 ⟨rfl, rfl⟩
      have w6 : decide ((d.natAbs : Int) ≤ g) = true := by simpa using w5
      go_wp2_with (fail)
      go_ret
      exact ⟨rfl, B.out⟩
    rcases Bool.eq_false_or_eq_true b3 with h3 | h3
    rotate_left
    · rcases Bool.eq_false_or_eq_true b4 with h4 | h4
      rotate_left
      · have w2 : (d == e0) = true := by simpa using steps_law Hd.out (by rw [Hb1.out]; exact h1) He0.out (by rw [Hb2.out]; exact h2)
        rw [h1, h2, h3, h4]
        obtain ⟨cc6_00, cc6_01, cc6_02, -, -, -⟩ := KA.out.all
        have ll6_0 := KA.out.lt
        go_wp2_with (fail)
        go_ret
        exact ⟨rfl, B.out⟩
      have w2 : (d == e0) = true := by simpa using steps_law Hd.out (by rw [Hb1.out]; exact h1) He0.out (by rw [Hb2.out]; exact h2)
      have w5 : (d.natAbs : Int) ≤ g := by rw [← Hg.out]; exact roads_bound Hd.out (by rw [Hb1.out]; exact h1) (by rw [Hb4.out]; exact h4)
      rw [h1, h2, h3, h4]
      obtain ⟨cc6_00, cc6_01, cc6_02, -, -, -⟩ := KA.out.all
      have ll6_0 := KA.out.lt
      go_wp2_with (fail)
      refine (lAbs9 d _ (by omega) (by omega)).mono ?_
      rintro e w7 ⟨rfl, rfl⟩
      have w6 : decide ((d.natAbs : Int) ≤ g) = true := by simpa using w5
      go_wp2_with (fail)
      go_ret
      exact ⟨rfl, B.out⟩
    rcases Bool.eq_false_or_eq_true b4 with h4 | h4
    rotate_left
    · have w2 : (d == e0) = true := by simpa using steps_law Hd.out (by rw [Hb1.out]; exact h1) He0.out (by rw [Hb2.out]; exact h2)
      have w3 : (d == f) = true := by rw [← Hf.out]; simpa using roads_image Hd.out (by rw [Hb1.out]; exact h1) (by rw [Hb3.out]; exact h3)
      have w4 : (e0 == f) = true := by rw [← Hf.out]; simpa using roads_steps He0.out (by rw [Hb2.out]; exact h2) (by rw [Hb3.out]; exact h3)
      exact absurd (roads_four (by rw [Hb3.out]; exact h3)) (by rw [Hb4.out, h4]; decide)
    have w2 : (d == e0) = true := by simpa using steps_law Hd.out (by rw [Hb1.out]; exact h1) He0.out (by rw [Hb2.out]; exact h2)
    have w3 : (d == f) = true := by rw [← Hf.out]; simpa using roads_image Hd.out (by rw [Hb1.out]; exact h1) (by rw [Hb3.out]; exact h3)
    have w4 : (e0 == f) = true := by rw [← Hf.out]; simpa using roads_steps He0.out (by rw [Hb2.out]; exact h2) (by rw [Hb3.out]; exact h3)
    have w5 : (d.natAbs : Int) ≤ g := by rw [← Hg.out]; exact roads_bound Hd.out (by rw [Hb1.out]; exact h1) (by rw [Hb4.out]; exact h4)
    rw [h1, h2, h3, h4]
    obtain ⟨cc6_00, cc6_01, cc6_02, -, -, -⟩ := KA.out.all
    have ll6_0 := KA.out.lt
    go_wp2_with (fail)
    refine (lAbs9 d _ (by omega) (by omega)).mono ?_
    rintro e w7 ⟨rfl, rfl⟩
    have w6 : decide ((d.natAbs : Int) ≤ g) = true := by simpa using w5
    go_wp2_with (fail)
    go_ret
    exact ⟨rfl, B.out⟩
  · have hbig' : 1048576 < len0 := by omega
    clear hbig
    go_enter Try.func4, Try.ntmps4
    go_wp2_with (fail)
    refine (big_yes w a0 len0 cap0 hbig').mono ?_
    rintro e w1 ⟨rfl, rfl⟩
    go_wp2_with (fail)
    go_ret
    exact ⟨rfl, Below.refl _ _⟩

/-! ### The row's step -/
set_option maxRecDepth 100000 in
theorem lifted (os : Os) (started : os.Started) (H : Type) (enc : TypeId × Value → H) :
    ReturnsInHanded {} Try.checked os 4 .any (Rows.fnThreeRoadsSpec.pre6 enc Try.prog Try.f4 Rows.fnThreeRoadsRow.domain false) (Rows.fnThreeRoadsSpec.post enc Try.prog Try.f4 false true false false) := by
  refine returnsInHanded_of_change (C := Try.checked) own started (by kernel_rfl) Try.func4
    (ChangeSpec.witness6 (enc := enc) (C := Try.checked) false ⟨#[], #[.slice none 0 0], []⟩ 8 (by kernel_rfl) (by kernel_rfl) (by kernel_rfl) (by kernel_rfl)) ?_
  intro W base args ds gs before hval0 hW hcnd _
  have hval : ∀ (j : Nat) t v, Try.f4.params[j]? = some t → args[j]? = some v → Value.okWide Try.prog W .any base t v := hval0
  have hW' := hW
  obtain ⟨p, q, hA0, hV, rfl, hfz, hnd⟩ := hW
  have hA : DataW.TrodAll enc Try.prog W 0 (fun _ => true) true Try.f4.params.toList args.toList ds p := hA0
  rw [Try.params4] at hA hval
  obtain ⟨v0, vs0, d0, ds0, p0, q0, hargs, rfl, rfl, h0, r0⟩ := trodAll_cons hA
  obtain ⟨rfl, rfl, rfl⟩ := trodAll_nil r0
  obtain rfl : args = #[v0] := by cases args; simp_all
  obtain ⟨rfl, rfl⟩ := trodVars_none hV
  have k0 := h0
  have lt0 : ∀ x ∈ p0, x.block < W.heap.size := by obtain ⟨m, hm⟩ := k0; exact DataW.trod_lt m _ _ _ hm
  obtain ⟨a0, len0, cap0, rfl⟩ := okWide_slice Try.underlying22 (hval 0 22 v0 rfl rfl)
  obtain ⟨fuel0, hf0⟩ := h0
  obtain ⟨z0, w0⟩ : ∃ zs, IsRow .u8 W a0 len0 cap0 zs := isRow_of Try.underlying22 Try.underlying5 (by kernel_rfl) (by simpa [Value.cells] using hf0)
  clear hA0 hval0
  refine (walk a0 len0 cap0 z0 W w0).mono fun e W' ⟨he, bel⟩ => ?_
  subst he
  exact ⟨_, rfl, _, _, _, [], _, [], hW', trodAll_mk1 (shut_bool Try.underlying4 _), (trodAll_cons_mk (Below.trod laidOut (by kernel_rfl) (of_decide_eq_true (by kernel_rfl)) k0 bel lt0) trodAll_mk0), rfl, bel.frame _, fun h => by cases h⟩

theorem over : Rows.fnThreeRoadsRow.holds Try.pinned (OpenSpec.ofChange Rows.fnThreeRoadsSpec) :=
  OpenClaim.holds_of_wide 4 Try.f4 rfl rfl rfl rfl rfl rfl rfl ⟨rfl, rfl, rfl, rfl, rfl⟩ rfl rfl rfl rfl rfl (by kernel_rfl) Try.func4 (by kernel_rfl)
    (of_decide_eq_true (by kernel_rfl)) (by unfold Func.isWrapper; first | (rw [if_pos (by decide +kernel)]; kernel_rfl) | (rw [if_neg (by decide +kernel)]; exact ⟨rfl, rfl⟩))
    (fun os started H enc _ => lifted os started H enc)

/-- ████ THE STATEMENT ████ -/
theorem proved : Rows.FnThreeRoadsSaid := over
#print axioms proved
end Go.Proofs.Ytgemkfcapkfdbaa.fnThreeRoads
