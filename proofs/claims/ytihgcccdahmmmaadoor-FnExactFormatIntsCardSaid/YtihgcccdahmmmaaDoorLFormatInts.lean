/-
  Proved: for every slice of numbers, the law FnExactFormatInts returns true: the program's FormatInts answers as the model's and writes into no argument.
  Conditions: none beyond the row's own (the argument reads as data; the library's tables read as the program's text lays them, which the card ties).
-/
import Derived.Test.YtihgcccdahmmmaaDoorRows
import Derived.Test.YtihgcccdahmmmaaDoorLaid
import Derived.Test.YtihgcccdahmmmaaDoorTie
import Derived.Test.YtihgcccdahmmmaaDoorCards
import Derived.SevenTiedAt
import Derived.Lay
import Derived.LaidMore
import Derived.ChangeOld
import Derived.Below
import Derived.Test.YtihgcccdahmmmaaDoorMem
import Derived.Test.YtihgcccdahmmmaaDoorLawMat
import Derived.Test.YtihgcccdahmmmaaDoorFmtS
import Derived.Test.YtihgcccdahmmmaaDoorFmtSI
import Derived.Deep.RegionHeld3
import Derived.Deep.DeepCutAuto
import Derived.WalkKit
import Derived.ProofKit
import Derived.OpenShut
import Derived.ShutString
import Derived.Carry
import Derived.Lib.SmallJoins
namespace Go.Proofs.YtihgcccdahmmmaaDoor.fnExactFormatInts
open Go.ChangeShapes Go.WideShapes Go.ChangeAt Go.RowKit
open Go.ChangeMaps (open_string shut_string)
set_option linter.unusedVariables false


/-- What the walk is told of a slice of integers that came in: it is nil; or it leads to a row of 'cap' cells, the numbers 'zs' (the first 'len' are its elements), each fitting its kind. -/
def IsRow (k : IntKind) (w : World) (a : Option Addr) (len cap : Nat) (zs : List Int) : Prop :=
  (a = none ∧ len = 0 ∧ cap = 0 ∧ zs = []) ∨
  ∃ x, a = some x ∧ len ≤ cap ∧ cap ≤ maxLen ∧ zs.length = cap ∧ (∀ i, i < zs.length → w.cell? (x.add i) = some (.int k (zs.getD i 0))) ∧ ∀ n ∈ zs, (Lit.int k n).wf = true
theorem isRow_of {H : Type} {enc : TypeId × Value → H} {P : Program} {W : World} {base : Nat} {held : Bool} {t e : TypeId} {k : IntKind} {a : Option Addr} {len cap fuel : Nat} {x : DataW H × List MemPlace}
    (ht : P.underlying t = some (.slice e)) (he : P.underlying e = some (.int k)) (hc : P.cellsOf e = 1) (hf : DataW.trod enc P W base (fun _ => true) held fuel t [.slice a len cap] = some x) : ∃ zs, IsRow k W a len cap zs := by
  rcases open_ints ht he hc hf with ⟨hcs, _⟩ | ⟨x, l, c, zs, hcs, _, hl, hm, hz, _, hcell, hwz⟩
  · simp at hcs
    obtain ⟨rfl, rfl, rfl⟩ := hcs
    exact ⟨[], .inl ⟨rfl, rfl, rfl, rfl⟩⟩
  · simp at hcs
    obtain ⟨rfl, rfl, rfl⟩ := hcs
    exact ⟨zs, .inr ⟨_, rfl, hl, hm, by simpa using hz, hcell, hwz⟩⟩
theorem codeRdN {w : World} {a : Option Addr} {len cap : Nat} {zs : List Int} (h : IsRow .i64 w a len cap zs) : ∃ xs : List Int, Rd w a xs ∧ len = xs.length ∧ len ≤ 9223372036854775807 ∧ I64 xs := by
  rcases h with ⟨rfl, rfl, rfl, rfl⟩ | ⟨x, rfl, hl, hm, hz, hcell, hwf⟩
  · exact ⟨[], Rd.nil _ _, rfl, by omega, fun i => by simp⟩
  · refine ⟨zs.take len, fun i hi => ?_, by simp; omega, by unfold maxLen at hm; omega, fun i => ?_⟩
    · simp only [List.length_take] at hi
      obtain ⟨b, o, rfl, hc⟩ := ints_at hcell (by omega)
      refine ⟨b, o, rfl, ?_⟩
      rw [hc i (by omega)]
      simp [List.getD, show i < len by omega]
    · rcases Nat.lt_or_ge i (zs.take len).length with hi | hi
      · have hin : (zs.take len).getD i 0 ∈ zs := by
          rw [List.getD, List.getElem?_eq_getElem hi]
          exact List.mem_of_mem_take (List.getElem_mem hi)
        obtain ⟨z, hz⟩ : ∃ z, (zs.take len).getD i 0 = z := ⟨_, rfl⟩
        rw [hz] at hin ⊢
        have := hwf _ hin
        simp [Lit.wf, IntKind.min, IntKind.max, IntKind.signed, IntKind.bits] at this
        omega
      · rw [List.getD, List.getElem?_eq_none hi]
        exact ⟨by decide, by decide⟩
set_option maxRecDepth 100000 in
set_option maxHeartbeats 8000000 in

theorem walk (a0 : Option Addr) (len0 cap0 : Nat) (z0 : List Int) (w : World) (w0 : IsRow .i64 w a0 len0 cap0 z0) (tb : Tab w) :
    Calls Tryd.prog 6 #[.slice a0 len0 cap0] w fun e w' => e = .returned (.bool true) ∧ Below w.heap.size w w' := by
  obtain ⟨xs0, hx, rfl, lx0, ix0⟩ := codeRdN w0
  have HX0 := Lib.hid hx
  have IX := Lib.hid ix0
  have TB := Lib.hid tb
  clear hx w0 tb ix0
  by_cases bx0 : xs0.length ≤ 1048576
  · obtain ⟨t, ht⟩ : ∃ t, itx xs0 xs0.length = t := ⟨_, rfl⟩
    have T := Lib.hid ht
    have nb : decide ((1048576 : Int) < xs0.length) = false := decide_eq_false (by omega)
    clear ht
    go_enter Tryd.func6, Tryd.ntmps6
    go_wp2_with fail
    refine (toI a0 cap0 xs0 _ HX0.out bx0).mono ?_
    rintro e w2 ⟨rfl, gi, hb⟩
    have I1 := Lib.hid gi
    have B : Hid (Below w.heap.size w w2) := Lib.hid hb
    clear gi hb
    go_wp2_with fail
    refine (sFormatInts _ _ xs0 _ I1.out.rd (by omega) IX.out).mono ?_
    rintro e w3 ⟨rfl, rfl⟩
    rw [T.out]
    go_wp2_with fail
    refine (toI a0 cap0 xs0 _ (HX0.out.below B.out) bx0).mono ?_
    rintro e w3 ⟨rfl, gi, hb⟩
    have X := Lib.hid gi
    have B := Lib.hid (stepB B.out hb)
    clear gi hb I1
    go_wp2_with fail
    refine (iFormatInts _ _ xs0 _ X.out.rd (by omega) IX.out (TB.out.below B.out)).mono ?_
    rintro e w4 ⟨rfl, hb⟩
    have X := Lib.hid (X.out.keep hb X.out.lt)
    have B := Lib.hid (stepB B.out hb)
    clear hb
    rw [T.out]
    go_wp2_with fail
    refine (toI a0 cap0 xs0 _ (HX0.out.below B.out) bx0).mono ?_
    rintro e w5 ⟨rfl, gi, hb⟩
    have I2 := Lib.hid gi
    have X := Lib.hid (X.out.keep hb X.out.lt)
    have B := Lib.hid (stepB B.out hb)
    clear gi hb
    go_wp2_with fail
    refine (eqI_t _ _ _ _ xs0 _ X.out.rd I2.out.rd (by omega)).mono ?_
    rintro e w6 ⟨rfl, m, rfl⟩
    go_wp2_with fail
    go_ret
    exact ⟨rfl, B.out.os, B.out.tape, B.out.output, B.out.size, B.out.block⟩
  · have nb : (1048576 : Int) < xs0.length := by omega
    clear bx0
    go_enter Tryd.func6, Tryd.ntmps6
    go_wp2_with fail
    go_ret
    exact ⟨rfl, Below.refl _ _⟩

/-! ### The row's step -/
/-- The tables that the row lists. -/
def tabs : List (String × DataW Unit) := [("math/bits.deBruijn32tab", Rows.laid_math_bits_deBruijn32tab), ("math/bits.deBruijn64tab", Rows.laid_math_bits_deBruijn64tab), ("internal/strconv.uint64pow10", Rows.laid_internal_strconv_uint64pow10)]
theorem tab_of_laid {W : World} (h : laidMetH Tryd.prog tabs W) : Tab W := by
  rw [MakeChecks.laidMetH_plain _ _ _ (by kernel_rfl)] at h
  have h1 := laidMet.tail (laidMet.tail (h))
  rw [pow_data] at h1
  exact Lib.tabIs_of_head gTab tab_type Tryd.underlying136 Tryd.underlying124 (by kernel_rfl) (by kernel_rfl) h1
set_option maxRecDepth 100000 in
theorem lifted (os : Os) (started : os.Started) (H : Type) (enc : TypeId × Value → H) :
    ReturnsInHanded {} Tryd.checked os 6 .any (fun w args => (Rows.fnExactFormatIntsSpec.pre enc Tryd.prog Tryd.f6 [] false w args ∧ laidMetH Tryd.prog tabs w) ∧ sizedMet enc Tryd.prog Tryd.f6 (OpenSpec.ofChange Rows.fnExactFormatIntsSpec) false w args)
      (Rows.fnExactFormatIntsSpec.post enc Tryd.prog Tryd.f6 false true false false) := by
  refine returnsInHanded_of_change_and (C := Tryd.checked) (X := fun w _ => laidMetH Tryd.prog tabs w) (fun _ _ _ hh h => h.of_heap hh) own started (by kernel_rfl) Tryd.func6
    (ChangeSpec.witness_shaped (enc := enc) (C := Tryd.checked) (os := os) (X := fun w _ => laidMetH Tryd.prog tabs w) false (World.laidAll Tryd.prog os tabs) #[.slice none 0 0] 8 (World.laidAll_os _ _ _) (World.shaped_of_ZipB (by kernel_rfl) (by kernel_rfl)) (by kernel_rfl) (by kernel_rfl) (by kernel_rfl)
      (by rw [MakeChecks.laidMetH_plain _ _ _ (by kernel_rfl)]; exact laidMet_laidAll _ (by kernel_rfl) (by kernel_rfl))) ?_
  intro W base args ds gs before hval0 hW _ _ hL _
  have tb := tab_of_laid hL
  have hval : ∀ (j : Nat) t v, Tryd.f6.params[j]? = some t → args[j]? = some v → Value.okWide Tryd.prog W .any base t v := hval0
  have hW' := hW
  obtain ⟨p, q, hA0, hV, rfl, hfz, hnd⟩ := hW
  have hA : DataW.TrodAll enc Tryd.prog W 0 (fun _ => true) true Tryd.f6.params.toList args.toList ds p := hA0
  rw [Tryd.params6] at hA hval
  obtain ⟨v0, vs0, d0, ds0, p0, q0, hargs, rfl, rfl, h0, r0⟩ := trodAll_cons hA
  obtain ⟨rfl, rfl, rfl⟩ := trodAll_nil r0
  obtain rfl : args = #[v0] := by cases args; simp_all
  obtain ⟨rfl, rfl⟩ := trodVars_none hV
  have k0 := h0
  have lt0 : ∀ x ∈ p0, x.block < W.heap.size := by obtain ⟨m, hm⟩ := k0; exact DataW.trod_lt m _ _ _ hm
  obtain ⟨a0, len0, cap0, rfl⟩ := okWide_slice Tryd.underlying24 (hval 0 24 v0 rfl rfl)
  obtain ⟨fuel0, hf0⟩ := h0
  obtain ⟨z0, w0⟩ : ∃ zs, IsRow .i64 W a0 len0 cap0 zs := isRow_of Tryd.underlying24 Tryd.underlying3 (by kernel_rfl) (by simpa [Value.cells] using hf0)
  clear hA0 hval0
  refine (walk a0 len0 cap0 z0 W w0 tb).mono fun e W' ⟨he, bel⟩ => ?_
  subst he
  exact ⟨_, rfl, _, _, _, [], _, [], hW', trodAll_mk1 (shut_bool Tryd.underlying4 _), (trodAll_cons_mk (Below.trod laidOut (by kernel_rfl) (of_decide_eq_true (by kernel_rfl)) k0 bel lt0) trodAll_mk0), rfl, bel.frame _, fun h => by cases h⟩

theorem over : Rows.fnExactFormatIntsRow.holds Tryd.pinned (OpenSpec.ofChange Rows.fnExactFormatIntsSpec) :=
  OpenClaim.holds_of_wide 6 Tryd.f6 rfl rfl rfl rfl rfl rfl rfl ⟨rfl, rfl, rfl, rfl, rfl⟩ rfl rfl rfl rfl rfl (by kernel_rfl) Tryd.func6 (by kernel_rfl)
    (of_decide_eq_true (by kernel_rfl)) (by unfold Func.isWrapper; first | (rw [if_pos (by decide +kernel)]; kernel_rfl) | (rw [if_neg (by decide +kernel)]; exact ⟨rfl, rfl⟩))
    (fun os started H enc _ => lifted os started H enc)

/-- THE TIED CARD. -/
theorem proved : Rows.FnExactFormatIntsCardSaid :=
  Claim7.holds_tied_plain_at .later [] [.data, .data, .data] true (true, "439f8157583cb05e311ebcab45017c9861a8d354741c74d5a10c2030de0560c9") false
    over (fun _ h => by cases h) (by kernel_rfl) (fun _ h => by cases h) fnExactFormatInts_row_tie rfl ⟨rfl, rfl⟩ (by kernel_rfl) rfl
    (fun f fn hf hfn => by
      obtain rfl : f = 6 := Option.some.inj ((show Tryd.prog.funcNamed "loop.example/g03411/laws.FnExactFormatInts" = some 6 by kernel_rfl).symm.trans hf) |>.symm
      obtain rfl : fn = Tryd.f6 := (Option.some.inj (Tryd.func6.symm.trans hfn)).symm
      exact ⟨by kernel_rfl, fun j t ht => by
        rw [Tryd.params6] at ht
        have hm : t ∈ [24] := by simpa using Array.mem_of_getElem? ht
        have hall : ([24].all fun u => !Tryd.prog.wantsStandIn u) = true := by kernel_rfl
        exact (show Tryd.prog.wantsStandIn t = false by simpa using List.all_eq_true.1 hall t hm)⟩)
    (by kernel_rfl)
#print axioms proved
end Go.Proofs.YtihgcccdahmmmaaDoor.fnExactFormatInts
