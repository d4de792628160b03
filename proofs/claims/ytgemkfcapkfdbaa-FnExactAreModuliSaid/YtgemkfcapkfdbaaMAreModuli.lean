/-
  Proved: for every list of numbers, the law FnExactAreModuli returns true: the program's AreModuli answers as the model's and writes into no argument.
  Conditions: none beyond the row's own (the arguments read as data).
-/
import Derived.Test.YtgemkfcapkfdbaaRows
import Derived.ChangeOld
import Derived.Below
import Derived.Deep.RegionHeld3
import Derived.Deep.DeepCutAuto
import Derived.WalkKit
import Derived.ProofKit
import Derived.OpenShut
import Derived.ShutString
import Derived.Carry
import Derived.Lib.SmallJoins
import Derived.Test.YtgemkfcapkfdbaaPk1
import Derived.Test.YtgemkfcapkfdbaaPk7

namespace Go.Proofs.Ytgemkfcapkfdbaa.fnExactAreModuli
open Go.ChangeShapes Go.WideShapes Go.ChangeAt Go.RowKit
open Go.ChangeMaps (open_string shut_string)
set_option linter.unusedVariables false

theorem own : ownKnob Try.prog.godebug = none := by kernel_rfl
theorem laidOut : laidOutB Try.prog = true := by kernel_rfl

/-- What the walk is told of a slice of integers that came in: it is nil; or it leads to a row of 'cap' cells, the numbers 'zs' (the first 'len' are its elements), each fitting its kind. -/
def IsRow (k : IntKind) (w : World) (a : Option Addr) (len cap : Nat) (zs : List Int) : Prop :=
  (a = none ∧ len = 0 ∧ cap = 0 ∧ zs = []) ∨
  ∃ x, a = some x ∧ len ≤ cap ∧ cap ≤ maxLen ∧ zs.length = cap ∧ (∀ i, i < zs.length → w.cell? (x.add i) = some (.int k (zs.getD i 0))) ∧ ∀ n ∈ zs, (Lit.int k n).wf = true
theorem isRow_of {H : Type} {enc : TypeId × Value → H} {P : Program} {W : World} {base : Nat} {held : Bool} {t e : TypeId} {k : IntKind} {a : Option Addr} {len cap fuel : Nat} {x : DataW H × List MemPlace}
    (ht : P.underlying t = some (.slice e)) (he : P.underlying e = some (.int k)) (hc : P.cellsOf e = 1) (hf : DataW.trod enc P W base (fun _ => true) held fuel t [.slice a len cap] = some x) : ∃ zs, IsRow k W a len cap zs := by
  rcases open_ints ht he hc hf with ⟨hcs, _⟩ | ⟨x, l, c, zs, hcs, _, hl, hm, hz, _, hcell, hwz⟩
  · simp at hcs
    obtain ⟨rfl, rfl, rfl⟩ := hcs
    exact ⟨[], .inl ⟨rfl, rfl, rfl, rfl⟩⟩
  · simp at hcs
    obtain ⟨rfl, rfl, rfl⟩ := hcs
    exact ⟨zs, .inr ⟨_, rfl, hl, hm, by simpa using hz, hcell, hwz⟩⟩
theorem codeRd {w : World} {a : Option Addr} {len cap : Nat} {zs : List Int} (h : IsRow .i64 w a len cap zs) : ∃ xs : List Int, Rd w a xs ∧ len = xs.length ∧ len ≤ 9223372036854775807 := by
  rcases h with ⟨rfl, rfl, rfl, rfl⟩ | ⟨x, rfl, hl, hm, hz, hcell, hwf⟩
  · exact ⟨[], Rd.nil _ _, rfl, by omega⟩
  · refine ⟨zs.take len, fun i hi => ?_, by simp; omega, by unfold maxLen at hm; omega⟩
    simp only [List.length_take] at hi
    obtain ⟨b, o, rfl, hc⟩ := ints_at hcell (by omega)
    refine ⟨b, o, rfl, ?_⟩
    rw [hc i (by omega)]
    simp [List.getD, show i < len by omega]
set_option maxRecDepth 100000 in
set_option maxHeartbeats 8000000 in

theorem walk (a0 : Option Addr) (len0 cap0 : Nat) (z0 : List Int) (w : World) (w0 : IsRow .i64 w a0 len0 cap0 z0) :
    Calls Try.prog 5 #[.slice a0 len0 cap0] w fun e w' => e = .returned (.bool true) ∧ Below w.heap.size w w' := by
  obtain ⟨xs0, hx, rfl, lx0⟩ := codeRd w0
  have HX0 := Lib.hid hx
  clear hx w0
  by_cases by0 : xs0.length ≤ 1048576
  · have nb0 : decide ((1048576 : Int) < xs0.length) = false := decide_eq_false (by omega)
    have B : Hid (Below w.heap.size w w) := Below.refl _ _
    obtain ⟨p0, hp0⟩ : ∃ p, modB xs0 = p := ⟨_, rfl⟩
    have P0 := Lib.hid hp0
    clear hp0
    go_enter Try.func5, Try.ntmps5
    go_wp2_with fail
    refine (toIg a0 cap0 xs0 _ (HX0.out.below B.out) (by omega)).mono ?_
    rintro e w2 ⟨s0, rfl, -, gi, hb⟩
    have B := Lib.hid (stepB B.out hb)
    have S0 := Lib.hid gi
    clear hb gi
    go_wp2_with fail
    refine (sModuG (some ⟨s0, 0, none⟩) xs0.length xs0 _ S0.out.rd (by omega)).mono ?_
    rintro e w3 ⟨rfl, hb⟩
    have S0 := Lib.hid (S0.out.keep hb S0.out.lt)
    have B := Lib.hid (stepB B.out hb)
    clear hb
    rw [P0.out]
    go_wp2_with fail
    refine (toIg a0 cap0 xs0 _ (HX0.out.below B.out) (by omega)).mono ?_
    rintro e w4 ⟨x0, rfl, -, gi, hb⟩
    have S0 := Lib.hid (S0.out.keep hb S0.out.lt)
    have B := Lib.hid (stepB B.out hb)
    have X0 := Lib.hid gi
    clear hb gi
    go_wp2_with fail
    refine (iModuG (some ⟨x0, 0, none⟩) xs0.length xs0 _ X0.out.rd (by omega) (Nat.le_refl _)).mono ?_
    rintro e w5 ⟨rfl, hb⟩
    have S0 := Lib.hid (S0.out.keep hb S0.out.lt)
    have X0 := Lib.hid (X0.out.keep hb X0.out.lt)
    have B := Lib.hid (stepB B.out hb)
    clear hb
    rw [P0.out]
    go_wp2_with fail
    refine (toIg a0 cap0 xs0 _ (HX0.out.below B.out) (by omega)).mono ?_
    rintro e w6 ⟨y0, rfl, -, gi, hb⟩
    have S0 := Lib.hid (S0.out.keep hb S0.out.lt)
    have X0 := Lib.hid (X0.out.keep hb X0.out.lt)
    have B := Lib.hid (stepB B.out hb)
    have Y0 := Lib.hid gi
    clear hb gi
    go_wp2_with fail
    refine (eqI_g (some ⟨x0, 0, none⟩) (some ⟨y0, 0, none⟩) xs0.length xs0.length xs0 _ X0.out.rd Y0.out.rd (by omega)).mono ?_
    rintro e w7 ⟨rfl, hb⟩
    have S0 := Lib.hid (S0.out.keep hb S0.out.lt)
    have X0 := Lib.hid (X0.out.keep hb X0.out.lt)
    have Y0 := Lib.hid (Y0.out.keep hb Y0.out.lt)
    have B := Lib.hid (stepB B.out hb)
    clear hb
    go_wp2_with fail
    go_ret
    exact ⟨rfl, B.out⟩
  · have nb0 : (1048576 : Int) < xs0.length := by omega
    clear by0
    go_enter Try.func5, Try.ntmps5
    go_wp2_with fail
    go_ret
    exact ⟨rfl, Below.refl _ _⟩

/-! ### The row's step -/
set_option maxRecDepth 100000 in
theorem lifted (os : Os) (started : os.Started) (H : Type) (enc : TypeId × Value → H) :
    ReturnsInHanded {} Try.checked os 5 .any (Rows.fnExactAreModuliSpec.pre6 enc Try.prog Try.f5 Rows.fnExactAreModuliRow.domain false) (Rows.fnExactAreModuliSpec.post enc Try.prog Try.f5 false true false false) := by
  refine returnsInHanded_of_change (C := Try.checked) own started (by kernel_rfl) Try.func5
    (ChangeSpec.witness6 (enc := enc) (C := Try.checked) false ⟨#[], #[.slice none 0 0], []⟩ 8 (by kernel_rfl) (by kernel_rfl) (by kernel_rfl) (by kernel_rfl)) ?_
  intro W base args ds gs before hval0 hW hcnd _
  have hval : ∀ (j : Nat) t v, Try.f5.params[j]? = some t → args[j]? = some v → Value.okWide Try.prog W .any base t v := hval0
  have hW' := hW
  obtain ⟨p, q, hA0, hV, rfl, hfz, hnd⟩ := hW
  have hA : DataW.TrodAll enc Try.prog W 0 (fun _ => true) true Try.f5.params.toList args.toList ds p := hA0
  rw [Try.params5] at hA hval
  obtain ⟨v0, vs0, d0, ds0, p0, q0, hargs, rfl, rfl, h0, r0⟩ := trodAll_cons hA
  obtain ⟨rfl, rfl, rfl⟩ := trodAll_nil r0
  obtain rfl : args = #[v0] := by cases args; simp_all
  obtain ⟨rfl, rfl⟩ := trodVars_none hV
  have k0 := h0
  have lt0 : ∀ x ∈ p0, x.block < W.heap.size := by obtain ⟨m, hm⟩ := k0; exact DataW.trod_lt m _ _ _ hm
  obtain ⟨a0, len0, cap0, rfl⟩ := okWide_slice Try.underlying24 (hval 0 24 v0 rfl rfl)
  obtain ⟨fuel0, hf0⟩ := h0
  obtain ⟨z0, w0⟩ : ∃ zs, IsRow .i64 W a0 len0 cap0 zs := isRow_of Try.underlying24 Try.underlying3 (by kernel_rfl) (by simpa [Value.cells] using hf0)
  clear hA0 hval0
  refine (walk a0 len0 cap0 z0 W w0).mono fun e W' ⟨he, bel⟩ => ?_
  subst he
  exact ⟨_, rfl, _, _, _, [], _, [], hW', trodAll_mk1 (shut_bool Try.underlying4 _), (trodAll_cons_mk (Below.trod laidOut (by kernel_rfl) (of_decide_eq_true (by kernel_rfl)) k0 bel lt0) trodAll_mk0), rfl, bel.frame _, fun h => by cases h⟩

theorem over : Rows.fnExactAreModuliRow.holds Try.pinned (OpenSpec.ofChange Rows.fnExactAreModuliSpec) :=
  OpenClaim.holds_of_wide 5 Try.f5 rfl rfl rfl rfl rfl rfl rfl ⟨rfl, rfl, rfl, rfl, rfl⟩ rfl rfl rfl rfl rfl (by kernel_rfl) Try.func5 (by kernel_rfl)
    (of_decide_eq_true (by kernel_rfl)) (by unfold Func.isWrapper; first | (rw [if_pos (by decide +kernel)]; kernel_rfl) | (rw [if_neg (by decide +kernel)]; exact ⟨rfl, rfl⟩))
    (fun os started H enc _ => lifted os started H enc)

/-- ████ THE STATEMENT ████ -/
theorem proved : Rows.FnExactAreModuliSaid := over
#print axioms proved
end Go.Proofs.Ytgemkfcapkfdbaa.fnExactAreModuli
