/-
  Proved: for every code, the law FnReconstruct returns true: a ratio with small parts comes back from its residue.
  Conditions: none beyond the row's own (the argument reads as data).
-/
import Derived.Test.YtkphlfcbinjknaaRows
import Derived.ChangeOld
import Derived.Below
import Derived.Test.YtkphlfcbinjknaaRcI
import Derived.Test.YtkphlfcbinjknaaRatLaw
import Derived.Test.YtkphlfcbinjknaaDrawX
import Derived.Test.YtkphlfcbinjknaaMem
import Derived.Test.YtkphlfcbinjknaaBlk4
import Derived.Test.YtkphlfcbinjknaaCode
import Derived.Deep.RegionHeld3
import Derived.Deep.DeepCutAuto
import Derived.WalkKit
import Derived.ProofKit
import Derived.OpenShut
import Derived.ShutString
import Derived.Carry
import Derived.Lib.SmallJoins
namespace Go.Proofs.Ytkphlfcbinjknaa.fnReconstruct
open Go.ChangeShapes Go.WideShapes Go.ChangeAt Go.RowKit
open Go.ChangeMaps (open_string shut_string)
set_option linter.unusedVariables false

theorem own : ownKnob Try.prog.godebug = none := by kernel_rfl
theorem laidOut : laidOutB Try.prog = true := by kernel_rfl

/-- What the walk is told of a slice of integers that came in: it is nil; or it leads to a row of 'cap' cells, the numbers 'zs' (the first 'len' are its elements), each fitting its kind. -/
def IsRow (k : IntKind) (w : World) (a : Option Addr) (len cap : Nat) (zs : List Int) : Prop :=
  (a = none ∧ len = 0 ∧ cap = 0 ∧ zs = []) ∨
  ∃ x, a = some x ∧ len ≤ cap ∧ cap ≤ maxLen ∧ zs.length = cap ∧ (∀ i, i < zs.length → w.cell? (x.add i) = some (.int k (zs.getD i 0))) ∧ ∀ n ∈ zs, (Lit.int k n).wf = true
theorem isRow_of {H : Type} {enc : TypeId × Value → H} {P : Program} {W : World} {base : Nat} {held : Bool} {t e : TypeId} {k : IntKind} {a : Option Addr} {len cap fuel : Nat} {x : DataW H × List MemPlace}
    (ht : P.underlying t = some (.slice e)) (he : P.underlying e = some (.int k)) (hc : P.cellsOf e = 1) (hf : DataW.trod enc P W base (fun _ => true) held fuel t [.slice a len cap] = some x) : ∃ zs, IsRow k W a len cap zs := by
  rcases open_ints ht he hc hf with ⟨hcs, _⟩ | ⟨x, l, c, zs, hcs, _, hl, hm, hz, _, hcell, hwz⟩
  · simp at hcs
    obtain ⟨rfl, rfl, rfl⟩ := hcs
    exact ⟨[], .inl ⟨rfl, rfl, rfl, rfl⟩⟩
  · simp at hcs
    obtain ⟨rfl, rfl, rfl⟩ := hcs
    exact ⟨zs, .inr ⟨_, rfl, hl, hm, by simpa using hz, hcell, hwz⟩⟩
theorem _root_.Go.Proofs.Ytkphlfcbinjknaa.Own.old {B : Nat} {w : World} {v : Value} {zs : List Int} (h : Own B w v zs) (o : Obj) : Own B (w.alloc o) v zs := h.keep ((Below.refl _ _).alloc (Nat.le_refl _) o)
theorem _root_.Go.Proofs.Ytkphlfcbinjknaa.Own.rd {B : Nat} {w : World} {a : Option Addr} {n cap : Nat} {zs : List Int} (h : Own B w (.slice a n cap) zs) : Rd w a zs := by
  obtain ⟨a', c', e, hr, -⟩ := h.form
  injection e with e1 e2 e3
  rw [e1]; exact hr
theorem lAbsR (n : Int) (w : World) (h1 : -4000000000000000000 ≤ n) (h2 : n ≤ 4000000000000000000) : Calls Try.prog 12 #[.int .i64 n] w fun e w' => e = .returned (.int .i64 (n.natAbs : Int)) ∧ w = w' := by
  have v1 : IntKind.i64.wrap (-n) = -n := IntWalk.i64_in _ (by omega)
  have v2 : max n (-n) = (n.natAbs : Int) := by omega
  go_enter Try.func12, Try.ntmps12
  go_wp2
  all_goals
    go_ret
    refine ⟨?_, rfl⟩
    simp
    omega
theorem max3 {k d c b : Int} (hc : (if k < d then d else k) = c) (h : (if 1 < c then c else 1) = b) (k1 : k ≤ 400000000) (d1 : d ≤ 400000000) : 1 ≤ b ∧ k ≤ b ∧ d ≤ b ∧ b ≤ 400000000 := by
  split at hc <;> split at h <;> omega
theorem sq2 {b : Int} (h1 : 1 ≤ b) (h2 : b ≤ 20000) : 0 ≤ 2 * b * b ∧ 2 * b * b ≤ 800000000 := by
  have h3 := Int.mul_nonneg (show 0 ≤ 2 * b by omega) (show 0 ≤ b by omega)
  have h4 : 2 * b * b ≤ 40000 * 20000 := Int.mul_le_mul (by omega) h2 (by omega) (by decide)
  omega
theorem codeIn_of_row {w : World} {a : Option Addr} {len cap : Nat} {zs : List Int} (h : IsRow .u8 w a len cap zs) : CodeIn w a len := by
  rcases h with ⟨rfl, rfl, rfl, rfl⟩ | ⟨x, rfl, hl, hm, hz, hcell, hwf⟩
  · exact codeIn_none w
  · exact codeIn_some hl hm hz hcell hwf
set_option maxRecDepth 100000 in
set_option maxHeartbeats 16000000 in

theorem walk (a0 : Option Addr) (len0 cap0 : Nat) (z0 : List Int) (w : World) (w0 : IsRow .u8 w a0 len0 cap0 z0) :
    Calls Try.prog 3 #[.slice a0 len0 cap0] w fun e w' => e = .returned (.bool true) ∧ Below w.heap.size w w' := by
  have hc : CodeIn w a0 len0 := codeIn_of_row w0
  have hl := hc.1
  have HC := Lib.hid hc
  clear w0 hc
  unfold maxLen at hl
  by_cases hbig : len0 ≤ 1048576
  · go_enter Try.func3, Try.ntmps3
    go_wp2_with (fail)
    refine (big_no w a0 len0 cap0 hbig).mono ?_
    rintro e w1 ⟨rfl, rfl⟩
    go_wp2_with (fail)
    refine (drawRes w a0 len0 cap0 HC.out).mono ?_
    rintro e w1 ⟨n, d, m, rfl, hb⟩
    have B := Lib.hid hb
    clear hb
    have K3 : Hid (Blk2 (w1.alloc (.cells #[.int .i64 n, .int .i64 d] 25)) w1.heap.size 25 (.int .i64 n) (.int .i64 d)) := Blk2.at_ _ _ _ rfl
    have B : Hid (Below w.heap.size w (w1.alloc (.cells #[.int .i64 n, .int .i64 d] 25))) := B.out.alloc B.out.size _
    obtain ⟨K3a, K3b, K3c, K3d⟩ := K3.out.all
    obtain ⟨y, hy⟩ : ∃ y, (rsX n d m).1 = y := ⟨_, rfl⟩
    obtain ⟨f, hf⟩ : ∃ f, (rsX n d m).2 = f := ⟨_, rfl⟩
    have HY := Lib.hid hy
    have HF := Lib.hid hf
    clear hy hf
    go_wp2_with (fail)
    refine (iResidue n d m _).mono ?_
    rintro e w2 ⟨rfl, hb⟩
    have K3 := Lib.hid (K3.out.keep hb K3.out.lt)
    have B := Lib.hid (B.out.trans (hb.mono B.out.size))
    clear hb
    obtain ⟨K3a, K3b, K3c, K3d⟩ := K3.out.all
    rw [HY.out, HF.out]
    go_wp2_with (fail)
    refine (sResidue n d m _).mono ?_
    rintro e w3 ⟨rfl, hb⟩
    have K3 := Lib.hid (K3.out.keep hb K3.out.lt)
    have B := Lib.hid (B.out.trans (hb.mono B.out.size))
    clear hb
    obtain ⟨K3a, K3b, K3c, K3d⟩ := K3.out.all
    rw [HY.out, HF.out]
    cases f with
    | false =>
      have y0 : y = 0 := by rw [← HY.out, rsX_none HF.out]
      subst y0
      go_wp2_with (fail)
      go_ret
      exact ⟨rfl, B.out⟩
    | true =>
      obtain ⟨l1, l2, l3⟩ := re_law HF.out
      rw [HY.out] at l1 l2 l3
      obtain ⟨i1, ⟨m1, m2⟩, -⟩ := imA_says (rsX_says HF.out).1
      obtain ⟨d1, d2, n1, n2, -⟩ := i1
      have L1 := Lib.hid l1
      clear l1
      go_wp2_with (fail)
      refine (iImage n d y m _).mono ?_
      rintro e w4 ⟨rfl, hb⟩
      have K3 := Lib.hid (K3.out.keep hb K3.out.lt)
      have B := Lib.hid (B.out.trans (hb.mono B.out.size))
      clear hb
      obtain ⟨K3a, K3b, K3c, K3d⟩ := K3.out.all
      rw [L1.out]
      have AB : Hid (∀ w', Calls Try.prog 12 #[.int .i64 n] w' fun e w2 => e = .returned (.int .i64 (n.natAbs : Int)) ∧ w' = w2) := fun w' => lAbsR n w' (by omega) (by omega)
      obtain ⟨k, hk⟩ : ∃ k : Int, (n.natAbs : Int) = k := ⟨_, rfl⟩
      have HK := Lib.hid hk
      have k0 : 0 ≤ k := by omega
      have k1 : k ≤ 400000000 := by omega
      rw [hk] at AB
      clear hk
      go_wp2_with (fail)
      go_quiet ((with_reducible refine (AB.out _).mono ?_; rintro e wq ⟨rfl, rfl⟩; exact ⟨rfl, _, rfl⟩))
      obtain ⟨c, hc9⟩ : ∃ c, (if k < d then d else k) = c := ⟨_, rfl⟩
      rw [hc9]
      obtain ⟨b, hb9⟩ : ∃ b, (if 1 < c then c else 1) = b := ⟨_, rfl⟩
      obtain ⟨b1, b2, b3, b4⟩ := max3 hc9 hb9 k1 d2
      rw [hb9]
      clear hb9 hc9
      have K3 := Lib.hid (K3.out.drewN nq)
      have B := Lib.hid (below_drewN B.out nq)
      generalize w4.drewN nq = w5 at K3 B ⊢
      go_wp2_with (fail)
      obtain ⟨K3a, K3b, K3c, K3d⟩ := K3.out.all
      by_cases c1 : 20000 < b
      · obtain ⟨p, hp⟩ : ∃ p, (rtX y m b).1 = p := ⟨_, rfl⟩
        obtain ⟨q, hq⟩ : ∃ p, (rtX y m b).2.1 = p := ⟨_, rfl⟩
        obtain ⟨g, hg⟩ : ∃ p, (rtX y m b).2.2 = p := ⟨_, rfl⟩
        refine (iRatio y m b _).mono ?_
        rintro e w6 ⟨rfl, hb⟩
        have K3 := Lib.hid (K3.out.keep hb K3.out.lt)
        have B := Lib.hid (B.out.trans (hb.mono B.out.size))
        clear hb
        rw [hp, hq, hg]
        have K9 : Hid (Blk2 (w6.alloc (.cells #[.int .i64 p, .int .i64 q] 25)) w6.heap.size 25 (.int .i64 p) (.int .i64 q)) := Blk2.at_ _ _ _ rfl
        have K3 : Hid (Blk2 (w6.alloc (.cells #[.int .i64 p, .int .i64 q] 25)) w1.heap.size 25 (.int .i64 n) (.int .i64 d)) := K3.out.old _
        have B : Hid (Below w.heap.size w (w6.alloc (.cells #[.int .i64 p, .int .i64 q] 25))) := B.out.alloc B.out.size _
        obtain ⟨K3a, K3b, K3c, K3d⟩ := K3.out.all
        obtain ⟨K9a, K9b, K9c, K9d⟩ := K9.out.all
        go_wp2_with (fail)
        go_ret
        exact ⟨rfl, B.out⟩
      by_cases c2 : m ≤ 2 * b * b
      · obtain ⟨p, hp⟩ : ∃ p, (rtX y m b).1 = p := ⟨_, rfl⟩
        obtain ⟨q, hq⟩ : ∃ p, (rtX y m b).2.1 = p := ⟨_, rfl⟩
        obtain ⟨g, hg⟩ : ∃ p, (rtX y m b).2.2 = p := ⟨_, rfl⟩
        have s0 := sq2 b1 (Int.not_lt.mp c1)
        refine (iRatio y m b _).mono ?_
        rintro e w6 ⟨rfl, hb⟩
        have K3 := Lib.hid (K3.out.keep hb K3.out.lt)
        have B := Lib.hid (B.out.trans (hb.mono B.out.size))
        clear hb
        rw [hp, hq, hg]
        have K9 : Hid (Blk2 (w6.alloc (.cells #[.int .i64 p, .int .i64 q] 25)) w6.heap.size 25 (.int .i64 p) (.int .i64 q)) := Blk2.at_ _ _ _ rfl
        have K3 : Hid (Blk2 (w6.alloc (.cells #[.int .i64 p, .int .i64 q] 25)) w1.heap.size 25 (.int .i64 n) (.int .i64 d)) := K3.out.old _
        have B : Hid (Below w.heap.size w (w6.alloc (.cells #[.int .i64 p, .int .i64 q] 25))) := B.out.alloc B.out.size _
        obtain ⟨K3a, K3b, K3c, K3d⟩ := K3.out.all
        obtain ⟨K9a, K9b, K9c, K9d⟩ := K9.out.all
        go_wp2_with (fail)
        go_ret
        exact ⟨rfl, B.out⟩
      have s0 := sq2 b1 (Int.not_lt.mp c1)
      have RB : Hid (rtX y m b = (n, d, true)) := by show _ = _; rw [← HY.out]; exact re_back HF.out (Int.not_lt.mp c1) b1 (by rw [HK.out]; exact b2) b3 (Int.not_le.mp c2)
      refine (iRatio y m b _).mono ?_
      rintro e w6 ⟨rfl, hb⟩
      have K3 := Lib.hid (K3.out.keep hb K3.out.lt)
      have B := Lib.hid (B.out.trans (hb.mono B.out.size))
      clear hb
      rw [RB.out]
      have K9 : Hid (Blk2 (w6.alloc (.cells #[.int .i64 n, .int .i64 d] 25)) w6.heap.size 25 (.int .i64 n) (.int .i64 d)) := Blk2.at_ _ _ _ rfl
      have K3 : Hid (Blk2 (w6.alloc (.cells #[.int .i64 n, .int .i64 d] 25)) w1.heap.size 25 (.int .i64 n) (.int .i64 d)) := K3.out.old _
      have B : Hid (Below w.heap.size w (w6.alloc (.cells #[.int .i64 n, .int .i64 d] 25))) := B.out.alloc B.out.size _
      obtain ⟨K3a, K3b, K3c, K3d⟩ := K3.out.all
      obtain ⟨K9a, K9b, K9c, K9d⟩ := K9.out.all
      go_wp2_with (fail)
      go_ret
      exact ⟨rfl, B.out⟩
  · have hbig' : 1048576 < len0 := by omega
    clear hbig
    go_enter Try.func3, Try.ntmps3
    go_wp2_with (fail)
    refine (big_yes w a0 len0 cap0 hbig').mono ?_
    rintro e w1 ⟨rfl, rfl⟩
    go_wp2_with (fail)
    go_ret
    exact ⟨rfl, Below.refl _ _⟩

/-! ### The row's step -/
set_option maxRecDepth 100000 in
theorem lifted (os : Os) (started : os.Started) (H : Type) (enc : TypeId × Value → H) :
    ReturnsInHanded {} Try.checked os 3 .any (Rows.fnReconstructSpec.pre6 enc Try.prog Try.f3 Rows.fnReconstructRow.domain false) (Rows.fnReconstructSpec.post enc Try.prog Try.f3 false true false false) := by
  refine returnsInHanded_of_change (C := Try.checked) own started (by kernel_rfl) Try.func3
    (ChangeSpec.witness6 (enc := enc) (C := Try.checked) false ⟨#[], #[.slice none 0 0], []⟩ 8 (by kernel_rfl) (by kernel_rfl) (by kernel_rfl) (by kernel_rfl)) ?_
  intro W base args ds gs before hval0 hW hcnd _
  have hval : ∀ (j : Nat) t v, Try.f3.params[j]? = some t → args[j]? = some v → Value.okWide Try.prog W .any base t v := hval0
  have hW' := hW
  obtain ⟨p, q, hA0, hV, rfl, hfz, hnd⟩ := hW
  have hA : DataW.TrodAll enc Try.prog W 0 (fun _ => true) true Try.f3.params.toList args.toList ds p := hA0
  rw [Try.params3] at hA hval
  obtain ⟨v0, vs0, d0, ds0, p0, q0, hargs, rfl, rfl, h0, r0⟩ := trodAll_cons hA
  obtain ⟨rfl, rfl, rfl⟩ := trodAll_nil r0
  obtain rfl : args = #[v0] := by cases args; simp_all
  obtain ⟨rfl, rfl⟩ := trodVars_none hV
  have k0 := h0
  have lt0 : ∀ x ∈ p0, x.block < W.heap.size := by obtain ⟨m, hm⟩ := k0; exact DataW.trod_lt m _ _ _ hm
  obtain ⟨a0, len0, cap0, rfl⟩ := okWide_slice Try.underlying22 (hval 0 22 v0 rfl rfl)
  obtain ⟨fuel0, hf0⟩ := h0
  obtain ⟨z0, w0⟩ : ∃ zs, IsRow .u8 W a0 len0 cap0 zs := isRow_of Try.underlying22 Try.underlying5 (by kernel_rfl) (by simpa [Value.cells] using hf0)
  clear hA0 hval0
  refine (walk a0 len0 cap0 z0 W w0).mono fun e W' ⟨he, bel⟩ => ?_
  subst he
  exact ⟨_, rfl, _, _, _, [], _, [], hW', trodAll_mk1 (shut_bool Try.underlying4 _), (trodAll_cons_mk (Below.trod laidOut (by kernel_rfl) (of_decide_eq_true (by kernel_rfl)) k0 bel lt0) trodAll_mk0), rfl, bel.frame _, fun h => by cases h⟩

theorem over : Rows.fnReconstructRow.holds Try.pinned (OpenSpec.ofChange Rows.fnReconstructSpec) :=
  OpenClaim.holds_of_wide 3 Try.f3 rfl rfl rfl rfl rfl rfl rfl ⟨rfl, rfl, rfl, rfl, rfl⟩ rfl rfl rfl rfl rfl (by kernel_rfl) Try.func3 (by kernel_rfl)
    (of_decide_eq_true (by kernel_rfl)) (by unfold Func.isWrapper; first | (rw [if_pos (by decide +kernel)]; kernel_rfl) | (rw [if_neg (by decide +kernel)]; exact ⟨rfl, rfl⟩))
    (fun os started H enc _ => lifted os started H enc)

/-- ████ THE STATEMENT ████ -/
theorem proved : Rows.FnReconstructSaid := over
#print axioms proved
end Go.Proofs.Ytkphlfcbinjknaa.fnReconstruct
