/-
  Proved: for every slice of bytes, the law FnGcd returns true: the greatest common divisor divides both drawn numbers and is a combination of them, whichever is named first.
  Conditions: none beyond the row's own (the argument reads as data).
-/
import Derived.Test.YtgoephocgefokaaRows
import Derived.ChangeOld
import Derived.Below
import Derived.Test.YtgoephocgefokaaNumExt
import Derived.Test.YtgoephocgefokaaDrawTwo
import Derived.Test.YtgoephocgefokaaCode
import Derived.WalkKit
import Derived.ProofKit
import Derived.OpenShut
import Derived.ShutString
import Derived.Carry
import Derived.Lib.SmallJoins
namespace Go.Proofs.Ytgoephocgefokaa.fnGcd
open Go.ChangeShapes Go.WideShapes Go.ChangeAt Go.RowKit
open Go.ChangeMaps (open_string shut_string)
set_option linter.unusedVariables false

theorem own : ownKnob Try.prog.godebug = none := by kernel_rfl
theorem laidOut : laidOutB Try.prog = true := by kernel_rfl

/-- What the walk is told of a slice of integers that came in: it is nil; or it leads to a row of 'cap' cells, the numbers 'zs' (the first 'len' are its elements), each fitting its kind. -/
def IsRow (k : IntKind) (w : World) (a : Option Addr) (len cap : Nat) (zs : List Int) : Prop :=
  (a = none ∧ len = 0 ∧ cap = 0 ∧ zs = []) ∨
  ∃ x, a = some x ∧ len ≤ cap ∧ cap ≤ maxLen ∧ zs.length = cap ∧ (∀ i, i < zs.length → w.cell? (x.add i) = some (.int k (zs.getD i 0))) ∧ ∀ n ∈ zs, (Lit.int k n).wf = true
theorem isRow_of {H : Type} {enc : TypeId × Value → H} {P : Program} {W : World} {base : Nat} {held : Bool} {t e : TypeId} {k : IntKind} {a : Option Addr} {len cap fuel : Nat} {x : DataW H × List MemPlace}
    (ht : P.underlying t = some (.slice e)) (he : P.underlying e = some (.int k)) (hc : P.cellsOf e = 1) (hf : DataW.trod enc P W base (fun _ => true) held fuel t [.slice a len cap] = some x) : ∃ zs, IsRow k W a len cap zs := by
  rcases open_ints ht he hc hf with ⟨hcs, _⟩ | ⟨x, l, c, zs, hcs, _, hl, hm, hz, _, hcell, hwz⟩
  · simp at hcs
    obtain ⟨rfl, rfl, rfl⟩ := hcs
    exact ⟨[], .inl ⟨rfl, rfl, rfl, rfl⟩⟩
  · simp at hcs
    obtain ⟨rfl, rfl, rfl⟩ := hcs
    exact ⟨zs, .inr ⟨_, rfl, hl, hm, by simpa using hz, hcell, hwz⟩⟩
theorem codeIn_of_row {w : World} {a : Option Addr} {len cap : Nat} {zs : List Int} (h : IsRow .u8 w a len cap zs) : CodeIn w a len := by
  rcases h with ⟨rfl, rfl, rfl, rfl⟩ | ⟨x, rfl, hl, hm, hz, hcell, hwf⟩
  · exact codeIn_none w
  · exact codeIn_some hl hm hz hcell hwf
theorem drawExt (w : World) (a : Option Addr) (len cap : Nat) (hc : CodeIn w a len) :
    Calls Try.prog 42 #[.slice a len cap] w (TwoInts (fun r s => In64 r ∧ In64 s) w) := by
  have HC := Lib.hid hc
  clear hc
  go_enter Try.func42, Try.ntmps42
  go_wp2_with (fail)
  refine (l1Two w a len cap HC.out).mono ?_
  rintro e w1 ⟨r, s, hrs, rfl, hb⟩
  have R := Lib.hid hrs
  have B := Lib.hid hb
  clear hrs hb
  go_wp2_with (fail)
  go_ret2
  exact ⟨r, s, R.out, rfl, B.out⟩
theorem mul_small (a x : Int) (a1 : -400000000 ≤ a) (a2 : a ≤ 400000000) (x1 : -400000000 ≤ x) (x2 : x ≤ 400000000) : -160000000000000000 ≤ a * x ∧ a * x ≤ 160000000000000000 := by
  have e : (a * x).natAbs = a.natAbs * x.natAbs := Int.natAbs_mul a x
  have l : a.natAbs * x.natAbs ≤ 400000000 * 400000000 := Nat.mul_le_mul (by omega) (by omega)
  omega


theorem walk (a0 : Option Addr) (len0 cap0 : Nat) (z0 : List Int) (w : World) (w0 : IsRow .u8 w a0 len0 cap0 z0) :
    Calls Try.prog 15 #[.slice a0 len0 cap0] w fun e w' => e = .returned (.bool true) ∧ Below w.heap.size w w' := by
  have hc : CodeIn w a0 len0 := codeIn_of_row w0
  have hl := hc.1
  have HC := Lib.hid hc
  clear w0 hc
  unfold maxLen at hl
  by_cases hbig : len0 ≤ 1048576
  · go_enter Try.func15, Try.ntmps15
    go_wp2_with (fail)
    refine (big_no w a0 len0 cap0 hbig).mono ?_
    rintro e w1 ⟨rfl, rfl⟩
    go_wp2_with (fail)
    refine (drawExt w a0 len0 cap0 HC.out).mono ?_
    rintro e w1 ⟨a, b, -, rfl, hb1⟩
    have B1 := Lib.hid hb1
    clear hb1
    by_cases h : (-400000000 ≤ a ∧ a ≤ 400000000) ∧ (-400000000 ≤ b ∧ b ≤ 400000000)
    · obtain ⟨x, y, he, hxy, x1, x2, y1, y2⟩ := egAns_is a b h.1 h.2
      have H := Lib.hid h
      have HE : Hid (egVal (egAns a b) = .tuple #[.int .i64 (Int.gcd a b : Int), .int .i64 x, .int .i64 y, .bool true]) := by unfold egVal; rw [he]; exact rfl
      have m1 := mul_small a x (by omega) (by omega) x1 x2
      have m2 := mul_small b y (by omega) (by omega) y1 y2
      have d1 : (a.tmod (Int.gcd a b : Int) == 0) = true := by simpa using Int.tmod_eq_zero_of_dvd (Int.gcd_dvd_left ..)
      have d2 : (b.tmod (Int.gcd a b : Int) == 0) = true := by simpa using Int.tmod_eq_zero_of_dvd (Int.gcd_dvd_right ..)
      have t : (a * x + b * y != (Int.gcd a b : Int)) = false := by simpa using hxy
      have z : (Int.gcd a b = 0 ∧ a = 0 ∧ b = 0) ∨ 0 < Int.gcd a b := by
        rcases Nat.eq_zero_or_pos (Int.gcd a b) with hz | hz
        · exact .inl ⟨hz, (Int.gcd_eq_zero_iff.1 hz).1, (Int.gcd_eq_zero_iff.1 hz).2⟩
        · exact .inr hz
      have C := Lib.hid (Int.gcd_comm b a)
      obtain ⟨m11, m12⟩ := m1
      obtain ⟨m21, m22⟩ := m2
      clear h he hxy
      have D1 := Lib.hid d1
      have D2 := Lib.hid d2
      have T := Lib.hid t
      have Z := Lib.hid z
      clear d1 d2 t z
      go_wp2_with (fail)
      refine (iExt a b _ H.out.1 H.out.2).mono ?_
      rintro e w2 ⟨rfl, hb2⟩
      rw [HE.out]
      have B2 := Lib.hid (B1.out.trans (hb2.mono B1.out.size))
      clear hb2
      go_wp2_with (fail)
      refine (sExt a b _ H.out.1 H.out.2).mono ?_
      rintro e w3 ⟨rfl, n3, rfl⟩
      rw [HE.out]
      go_wp2_with (fail)
      refine (iGcd a b _ H.out.1 H.out.2).mono ?_
      rintro e w4 ⟨rfl, n4, rfl⟩
      go_wp2_with (fail)
      refine (iGcd b a _ H.out.2 H.out.1).mono ?_
      rintro e w5 ⟨rfl, n5, rfl⟩
      rw [C.out]
      have t := T.out
      have d1 := D1.out
      have d2 := D2.out
      rcases Z.out with ⟨z0, rfl, rfl⟩ | z0
      · rw [z0] at t d1 d2
        rw [z0]
        go_wp2_with (fail)
        go_ret
        exact ⟨rfl, below_drewN B2.out _⟩
      · generalize Int.gcd a b = G at *
        have z1 : ((G : Int) == 0) = false := by simp; omega
        have z2 : (0 : Int) < G := by omega
        go_wp2_with (fail)
        go_ret
        exact ⟨rfl, below_drewN B2.out _⟩
    · have H := Lib.hid h
      clear h
      go_wp2_with (fail)
      refine (iExt_f a b _ H.out).mono ?_
      rintro e w2 ⟨rfl, rfl⟩
      go_wp2_with (fail)
      refine (sExt_f a b _ H.out).mono ?_
      rintro e w3 ⟨rfl, rfl⟩
      go_wp2_with (fail)
      refine (iGcd_f a b _ H.out).mono ?_
      rintro e w4 ⟨rfl, rfl⟩
      go_wp2_with (fail)
      go_ret
      exact ⟨rfl, B1.out⟩
  · have hbig' : 1048576 < len0 := by omega
    clear hbig
    go_enter Try.func15, Try.ntmps15
    go_wp2_with (fail)
    refine (big_yes w a0 len0 cap0 hbig').mono ?_
    rintro e w1 ⟨rfl, rfl⟩
    go_wp2_with (fail)
    go_ret
    exact ⟨rfl, Below.refl _ _⟩

/-! ### The row's step -/
set_option maxRecDepth 100000 in
theorem lifted (os : Os) (started : os.Started) (H : Type) (enc : TypeId × Value → H) :
    ReturnsInHanded {} Try.checked os 15 .any (Rows.fnGcdSpec.pre6 enc Try.prog Try.f15 Rows.fnGcdRow.domain false) (Rows.fnGcdSpec.post enc Try.prog Try.f15 false true false false) := by
  refine returnsInHanded_of_change (C := Try.checked) own started (by kernel_rfl) Try.func15
    (ChangeSpec.witness6 (enc := enc) (C := Try.checked) false ⟨#[], #[.slice none 0 0], []⟩ 8 (by kernel_rfl) (by kernel_rfl) (by kernel_rfl) (by kernel_rfl)) ?_
  intro W base args ds gs before hval0 hW hcnd _
  have hval : ∀ (j : Nat) t v, Try.f15.params[j]? = some t → args[j]? = some v → Value.okWide Try.prog W .any base t v := hval0
  have hW' := hW
  obtain ⟨p, q, hA0, hV, rfl, hfz, hnd⟩ := hW
  have hA : DataW.TrodAll enc Try.prog W 0 (fun _ => true) true Try.f15.params.toList args.toList ds p := hA0
  rw [Try.params15] at hA hval
  obtain ⟨v0, vs0, d0, ds0, p0, q0, hargs, rfl, rfl, h0, r0⟩ := trodAll_cons hA
  obtain ⟨rfl, rfl, rfl⟩ := trodAll_nil r0
  obtain rfl : args = #[v0] := by cases args; simp_all
  obtain ⟨rfl, rfl⟩ := trodVars_none hV
  have k0 := h0
  have lt0 : ∀ x ∈ p0, x.block < W.heap.size := by obtain ⟨m, hm⟩ := k0; exact DataW.trod_lt m _ _ _ hm
  obtain ⟨a0, len0, cap0, rfl⟩ := okWide_slice Try.underlying36 (hval 0 36 v0 rfl rfl)
  obtain ⟨fuel0, hf0⟩ := h0
  obtain ⟨z0, w0⟩ : ∃ zs, IsRow .u8 W a0 len0 cap0 zs := isRow_of Try.underlying36 Try.underlying5 (by kernel_rfl) (by simpa [Value.cells] using hf0)
  clear hA0 hval0
  refine (walk a0 len0 cap0 z0 W w0).mono fun e W' ⟨he, bel⟩ => ?_
  subst he
  exact ⟨_, rfl, _, _, _, [], _, [], hW', trodAll_mk1 (shut_bool Try.underlying4 _), (trodAll_cons_mk (Below.trod laidOut (by kernel_rfl) (of_decide_eq_true (by kernel_rfl)) k0 bel lt0) trodAll_mk0), rfl, bel.frame _, fun h => by cases h⟩

theorem over : Rows.fnGcdRow.holds Try.pinned (OpenSpec.ofChange Rows.fnGcdSpec) :=
  OpenClaim.holds_of_wide 15 Try.f15 rfl rfl rfl rfl rfl rfl rfl ⟨rfl, rfl, rfl, rfl, rfl⟩ rfl rfl rfl rfl rfl (by kernel_rfl) Try.func15 (by kernel_rfl)
    (of_decide_eq_true (by kernel_rfl)) (by unfold Func.isWrapper; first | (rw [if_pos (by decide +kernel)]; kernel_rfl) | (rw [if_neg (by decide +kernel)]; exact ⟨rfl, rfl⟩))
    (fun os started H enc _ => lifted os started H enc)

/-- ████ THE STATEMENT ████ -/
theorem proved : Rows.FnGcdSaid := over
#print axioms proved
end Go.Proofs.Ytgoephocgefokaa.fnGcd
