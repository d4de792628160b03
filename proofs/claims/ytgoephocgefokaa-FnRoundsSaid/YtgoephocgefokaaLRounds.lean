/-
  Proved: for every slice of bytes, the law FnRounds returns true: the nearest whole number of the drawn ratio is at most one half away, and is the number rounded down or the next one.
  Conditions: none beyond the row's own (the argument reads as data).
-/
import Derived.Test.YtgoephocgefokaaRows
import Derived.ChangeOld
import Derived.Below
import Derived.Test.YtgoephocgefokaaRatNear
import Derived.Test.YtgoephocgefokaaDrawRat2
import Derived.Test.YtgoephocgefokaaCode
import Derived.IntWalk
import Derived.WalkKit
import Derived.ProofKit
import Derived.OpenShut
import Derived.ShutString
import Derived.Carry
import Derived.Lib.SmallJoins
namespace Go.Proofs.Ytgoephocgefokaa.fnRounds
open Go.ChangeShapes Go.WideShapes Go.ChangeAt Go.RowKit
open Go.ChangeMaps (open_string shut_string)
set_option linter.unusedVariables false

theorem own : ownKnob Try.prog.godebug = none := by kernel_rfl
theorem laidOut : laidOutB Try.prog = true := by kernel_rfl

/-- What the walk is told of a slice of integers that came in: it is nil; or it leads to a row of 'cap' cells, the numbers 'zs' (the first 'len' are its elements), each fitting its kind. -/
def IsRow (k : IntKind) (w : World) (a : Option Addr) (len cap : Nat) (zs : List Int) : Prop :=
  (a = none ∧ len = 0 ∧ cap = 0 ∧ zs = []) ∨
  ∃ x, a = some x ∧ len ≤ cap ∧ cap ≤ maxLen ∧ zs.length = cap ∧ (∀ i, i < zs.length → w.cell? (x.add i) = some (.int k (zs.getD i 0))) ∧ ∀ n ∈ zs, (Lit.int k n).wf = true
theorem isRow_of {H : Type} {enc : TypeId × Value → H} {P : Program} {W : World} {base : Nat} {held : Bool} {t e : TypeId} {k : IntKind} {a : Option Addr} {len cap fuel : Nat} {x : DataW H × List MemPlace}
    (ht : P.underlying t = some (.slice e)) (he : P.underlying e = some (.int k)) (hc : P.cellsOf e = 1) (hf : DataW.trod enc P W base (fun _ => true) held fuel t [.slice a len cap] = some x) : ∃ zs, IsRow k W a len cap zs := by
  rcases open_ints ht he hc hf with ⟨hcs, _⟩ | ⟨x, l, c, zs, hcs, _, hl, hm, hz, _, hcell, hwz⟩
  · simp at hcs
    obtain ⟨rfl, rfl, rfl⟩ := hcs
    exact ⟨[], .inl ⟨rfl, rfl, rfl, rfl⟩⟩
  · simp at hcs
    obtain ⟨rfl, rfl, rfl⟩ := hcs
    exact ⟨zs, .inr ⟨_, rfl, hl, hm, by simpa using hz, hcell, hwz⟩⟩
theorem codeIn_of_row {w : World} {a : Option Addr} {len cap : Nat} {zs : List Int} (h : IsRow .u8 w a len cap zs) : CodeIn w a len := by
  rcases h with ⟨rfl, rfl, rfl, rfl⟩ | ⟨x, rfl, hl, hm, hz, hcell, hwf⟩
  · exact codeIn_none w
  · exact codeIn_some hl hm hz hcell hwf
set_option maxHeartbeats 2000000 in

theorem walk (a0 : Option Addr) (len0 cap0 : Nat) (z0 : List Int) (w : World) (w0 : IsRow .u8 w a0 len0 cap0 z0) :
    Calls Try.prog 13 #[.slice a0 len0 cap0] w fun e w' => e = .returned (.bool true) ∧ Below w.heap.size w w' := by
  have hc : CodeIn w a0 len0 := codeIn_of_row w0
  have hl := hc.1
  have HC := Lib.hid hc
  clear w0 hc
  unfold maxLen at hl
  by_cases hbig : len0 ≤ 1048576
  · go_enter Try.func13, Try.ntmps13
    go_wp2_with (fail)
    refine (big_no w a0 len0 cap0 hbig).mono ?_
    rintro e w1 ⟨rfl, rfl⟩
    go_wp2_with (fail)
    refine (drawRnd w a0 len0 cap0 HC.out).mono ?_
    rintro e w1 ⟨p, q, rfl, hb⟩
    have B := Lib.hid hb
    clear hb
    go_wp2_with (fail)
    refine (iRnd p q _).mono ?_
    rintro e w2 ⟨rfl, hb⟩
    have K : Hid (Blk2 w2 w1.heap.size 25 (.int .i64 p) (.int .i64 q)) := (Blk2.at_ _ _ _ rfl).keep hb (by simp)
    have B : Hid (Below w.heap.size w w2) := (B.out.alloc B.out.size _).trans (hb.mono (by have := B.out.size; simp; omega))
    obtain ⟨ca2, cb2, -, -⟩ := K.out.all
    clear hb
    go_wp2_with (fail)
    refine (iFlo p q _).mono ?_
    rintro e w3 ⟨rfl, hb⟩
    have K := Lib.hid (K.out.keep hb K.out.lt)
    have B := Lib.hid (B.out.trans (hb.mono B.out.size))
    obtain ⟨ca3, cb3, -, -⟩ := K.out.all
    clear hb
    go_wp2_with (fail)
    refine (sIsRat p q _).mono ?_
    rintro e w4 ⟨rfl, hb⟩
    have K := Lib.hid (K.out.keep hb K.out.lt)
    have B := Lib.hid (B.out.trans (hb.mono B.out.size))
    obtain ⟨ca4, cb4, -, -⟩ := K.out.all
    clear hb
    rcases Bool.eq_false_or_eq_true (isRat p q) with hr | hr
    · obtain ⟨⟨p1, p2⟩, q1, q2⟩ := isRat_in (of_decide_eq_true hr)
      obtain ⟨f, n, d, hf, hn, hnf, g1, g2, hd, g3, g4, f1, f2, f3, f4, f5, f6, f7, f8⟩ := near (of_decide_eq_true hr)
      rw [hr, hf, hn]
      have ND := Lib.hid hd
      have R := Lib.hid hr
      clear hf hn hd hr
      rcases hnf with rfl | rfl
      · have v1 : IntKind.i64.wrap (n * q) = n * q := IntWalk.i64_in _ (by omega)
        have v2 : IntKind.i64.wrap (n * q - p) = n * q - p := IntWalk.i64_in _ (by omega)
        have v3 : IntKind.i64.wrap (2 * d) = 2 * d := IntWalk.i64_in _ (by omega)
        have v4 : IntKind.i64.wrap (n + 1) = n + 1 := IntWalk.i64_in _ (by omega)
        have v5 : IntKind.i64.wrap ((n + 1) * q) = (n + 1) * q := IntWalk.i64_in _ (by omega)
        go_wp2_with (fail)
        go_quiet ((go_at_call 39; exact Calls.quiet_of_same ((labs _ _ (by omega) (by omega)).mono fun _ _ ⟨he, hw⟩ => ⟨by rw [he, ND.out], hw.symm⟩)))
        go_wp2_with (fail)
        go_ret
        exact ⟨rfl, below_drewN B.out _⟩
      · have v1 : IntKind.i64.wrap ((f + 1) * q) = (f + 1) * q := IntWalk.i64_in _ (by omega)
        have v2 : IntKind.i64.wrap ((f + 1) * q - p) = (f + 1) * q - p := IntWalk.i64_in _ (by omega)
        have v3 : IntKind.i64.wrap (2 * d) = 2 * d := IntWalk.i64_in _ (by omega)
        have v4 : IntKind.i64.wrap (f + 1) = f + 1 := IntWalk.i64_in _ (by omega)
        have v5 : IntKind.i64.wrap (f * q) = f * q := IntWalk.i64_in _ (by omega)
        have v6 : (f + 1 == f) = false := by simp; omega
        go_wp2_with (fail)
        go_quiet ((go_at_call 39; exact Calls.quiet_of_same ((labs _ _ (by omega) (by omega)).mono fun _ _ ⟨he, hw⟩ => ⟨by rw [he, ND.out], hw.symm⟩)))
        go_wp2_with (fail)
        go_ret
        exact ⟨rfl, below_drewN B.out _⟩
    · rw [hr]
      have z1 : floorR p q = 0 := by unfold floorR; rw [hr]; rfl
      have z2 : roundR p q = 0 := by unfold roundR; rw [hr]; rfl
      rw [z1, z2]
      clear z1 z2 hr
      go_wp2_with (fail)
      go_ret
      exact ⟨rfl, B.out⟩
  · have hbig' : 1048576 < len0 := by omega
    clear hbig
    go_enter Try.func13, Try.ntmps13
    go_wp2_with (fail)
    refine (big_yes w a0 len0 cap0 hbig').mono ?_
    rintro e w1 ⟨rfl, rfl⟩
    go_wp2_with (fail)
    go_ret
    exact ⟨rfl, Below.refl _ _⟩

/-! ### The row's step -/
set_option maxRecDepth 100000 in
theorem lifted (os : Os) (started : os.Started) (H : Type) (enc : TypeId × Value → H) :
    ReturnsInHanded {} Try.checked os 13 .any (Rows.fnRoundsSpec.pre6 enc Try.prog Try.f13 Rows.fnRoundsRow.domain false) (Rows.fnRoundsSpec.post enc Try.prog Try.f13 false true false false) := by
  refine returnsInHanded_of_change (C := Try.checked) own started (by kernel_rfl) Try.func13
    (ChangeSpec.witness6 (enc := enc) (C := Try.checked) false ⟨#[], #[.slice none 0 0], []⟩ 8 (by kernel_rfl) (by kernel_rfl) (by kernel_rfl) (by kernel_rfl)) ?_
  intro W base args ds gs before hval0 hW hcnd _
  have hval : ∀ (j : Nat) t v, Try.f13.params[j]? = some t → args[j]? = some v → Value.okWide Try.prog W .any base t v := hval0
  have hW' := hW
  obtain ⟨p, q, hA0, hV, rfl, hfz, hnd⟩ := hW
  have hA : DataW.TrodAll enc Try.prog W 0 (fun _ => true) true Try.f13.params.toList args.toList ds p := hA0
  rw [Try.params13] at hA hval
  obtain ⟨v0, vs0, d0, ds0, p0, q0, hargs, rfl, rfl, h0, r0⟩ := trodAll_cons hA
  obtain ⟨rfl, rfl, rfl⟩ := trodAll_nil r0
  obtain rfl : args = #[v0] := by cases args; simp_all
  obtain ⟨rfl, rfl⟩ := trodVars_none hV
  have k0 := h0
  have lt0 : ∀ x ∈ p0, x.block < W.heap.size := by obtain ⟨m, hm⟩ := k0; exact DataW.trod_lt m _ _ _ hm
  obtain ⟨a0, len0, cap0, rfl⟩ := okWide_slice Try.underlying36 (hval 0 36 v0 rfl rfl)
  obtain ⟨fuel0, hf0⟩ := h0
  obtain ⟨z0, w0⟩ : ∃ zs, IsRow .u8 W a0 len0 cap0 zs := isRow_of Try.underlying36 Try.underlying5 (by kernel_rfl) (by simpa [Value.cells] using hf0)
  clear hA0 hval0
  refine (walk a0 len0 cap0 z0 W w0).mono fun e W' ⟨he, bel⟩ => ?_
  subst he
  exact ⟨_, rfl, _, _, _, [], _, [], hW', trodAll_mk1 (shut_bool Try.underlying4 _), (trodAll_cons_mk (Below.trod laidOut (by kernel_rfl) (of_decide_eq_true (by kernel_rfl)) k0 bel lt0) trodAll_mk0), rfl, bel.frame _, fun h => by cases h⟩

theorem over : Rows.fnRoundsRow.holds Try.pinned (OpenSpec.ofChange Rows.fnRoundsSpec) :=
  OpenClaim.holds_of_wide 13 Try.f13 rfl rfl rfl rfl rfl rfl rfl ⟨rfl, rfl, rfl, rfl, rfl⟩ rfl rfl rfl rfl rfl (by kernel_rfl) Try.func13 (by kernel_rfl)
    (of_decide_eq_true (by kernel_rfl)) (by unfold Func.isWrapper; first | (rw [if_pos (by decide +kernel)]; kernel_rfl) | (rw [if_neg (by decide +kernel)]; exact ⟨rfl, rfl⟩))
    (fun os started H enc _ => lifted os started H enc)

/-- ████ THE STATEMENT ████ -/
theorem proved : Rows.FnRoundsSaid := over
#print axioms proved
end Go.Proofs.Ytgoephocgefokaa.fnRounds
