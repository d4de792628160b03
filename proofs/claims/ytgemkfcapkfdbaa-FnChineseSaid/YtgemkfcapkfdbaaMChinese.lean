/-
  Proved: for every code, the law FnChinese returns true: the number that is found has all residues and is less than the product of the moduli, and its symmetric residue is what it should be.
  Conditions: none beyond the row's own (the argument reads as data).
-/
import Derived.Test.YtgemkfcapkfdbaaRows
import Derived.ChangeOld
import Derived.Below
import Derived.Deep.RegionHeld3
import Derived.Deep.DeepCutAuto
import Derived.WalkKit
import Derived.ProofKit
import Derived.OpenShut
import Derived.ShutString
import Derived.Carry
import Derived.Lib.SmallJoins
import Derived.Test.YtgemkfcapkfdbaaPk1
import Derived.Test.YtgemkfcapkfdbaaPk15

namespace Go.Proofs.Ytgemkfcapkfdbaa.fnChinese
open Go.ChangeShapes Go.WideShapes Go.ChangeAt Go.RowKit
open Go.ChangeMaps (open_string shut_string)
set_option linter.unusedVariables false

theorem own : ownKnob Try.prog.godebug = none := by kernel_rfl
theorem laidOut : laidOutB Try.prog = true := by kernel_rfl

/-- What the walk is told of a slice of integers that came in: it is nil; or it leads to a row of 'cap' cells, the numbers 'zs' (the first 'len' are its elements), each fitting its kind. -/
def IsRow (k : IntKind) (w : World) (a : Option Addr) (len cap : Nat) (zs : List Int) : Prop :=
  (a = none ∧ len = 0 ∧ cap = 0 ∧ zs = []) ∨
  ∃ x, a = some x ∧ len ≤ cap ∧ cap ≤ maxLen ∧ zs.length = cap ∧ (∀ i, i < zs.length → w.cell? (x.add i) = some (.int k (zs.getD i 0))) ∧ ∀ n ∈ zs, (Lit.int k n).wf = true
theorem isRow_of {H : Type} {enc : TypeId × Value → H} {P : Program} {W : World} {base : Nat} {held : Bool} {t e : TypeId} {k : IntKind} {a : Option Addr} {len cap fuel : Nat} {x : DataW H × List MemPlace}
    (ht : P.underlying t = some (.slice e)) (he : P.underlying e = some (.int k)) (hc : P.cellsOf e = 1) (hf : DataW.trod enc P W base (fun _ => true) held fuel t [.slice a len cap] = some x) : ∃ zs, IsRow k W a len cap zs := by
  rcases open_ints ht he hc hf with ⟨hcs, _⟩ | ⟨x, l, c, zs, hcs, _, hl, hm, hz, _, hcell, hwz⟩
  · simp at hcs
    obtain ⟨rfl, rfl, rfl⟩ := hcs
    exact ⟨[], .inl ⟨rfl, rfl, rfl, rfl⟩⟩
  · simp at hcs
    obtain ⟨rfl, rfl, rfl⟩ := hcs
    exact ⟨zs, .inr ⟨_, rfl, hl, hm, by simpa using hz, hcell, hwz⟩⟩
theorem _root_.Go.Proofs.Ytgemkfcapkfdbaa.Own.old {B : Nat} {w : World} {v : Value} {zs : List Int} (h : Own B w v zs) (o : Obj) : Own B (w.alloc o) v zs := h.keep ((Below.refl _ _).alloc (Nat.le_refl _) o)
theorem _root_.Go.Proofs.Ytgemkfcapkfdbaa.Own.rd {B : Nat} {w : World} {a : Option Addr} {n cap : Nat} {zs : List Int} (h : Own B w (.slice a n cap) zs) : Rd w a zs := by
  obtain ⟨a', c', e, hr, -⟩ := h.form
  injection e with e1 e2 e3
  rw [e1]; exact hr
theorem codeIn_of_row {w : World} {a : Option Addr} {len cap : Nat} {zs : List Int} (h : IsRow .u8 w a len cap zs) : CodeIn w a len := by
  rcases h with ⟨rfl, rfl, rfl, rfl⟩ | ⟨x, rfl, hl, hm, hz, hcell, hwf⟩
  · exact codeIn_none w
  · exact codeIn_some hl hm hz hcell hwf
set_option maxRecDepth 100000 in
set_option maxHeartbeats 16000000 in

theorem walk (a0 : Option Addr) (len0 cap0 : Nat) (z0 : List Int) (w : World) (w0 : IsRow .u8 w a0 len0 cap0 z0) :
    Calls Try.prog 3 #[.slice a0 len0 cap0] w fun e w' => e = .returned (.bool true) ∧ Below w.heap.size w w' := by
  have hc : CodeIn w a0 len0 := codeIn_of_row w0
  have hl := hc.1
  have HC := Lib.hid hc
  clear w0 hc
  unfold maxLen at hl
  by_cases hbig : len0 ≤ 1048576
  · go_enter Try.func3, Try.ntmps3
    go_wp2_with (fail)
    refine (big_no w a0 len0 cap0 hbig).mono ?_
    rintro e w1 ⟨rfl, rfl⟩
    go_wp2_with (fail)
    refine (drawChi w a0 len0 cap0 HC.out).mono ?_
    rintro e w1 ⟨q1, qc1, xs, qb, qbc, ms, rfl, o1, l1, o2, l2, hb⟩
    have B := Lib.hid hb
    have OB := Lib.hid (o2.le (Nat.zero_le _))
    have nb : ms.length ≤ 16777216 := by omega
    have CB := Lib.hid (own_cap o2).1
    have OA := Lib.hid (o1.le (Nat.zero_le _))
    have n1 : xs.length ≤ 16777216 := by omega
    clear hb o1 o2
    go_wp2_with (fail)
    obtain ⟨x, hx⟩ : ∃ x, (chiX xs ms).1 = x := ⟨_, rfl⟩
    obtain ⟨n, hn⟩ : ∃ n, (chiX xs ms).2.1 = n := ⟨_, rfl⟩
    obtain ⟨f, hf⟩ : ∃ f, (chiX xs ms).2.2 = f := ⟨_, rfl⟩
    have HX := Lib.hid hx
    have HN := Lib.hid hn
    have HF := Lib.hid hf
    clear hx hn hf
    refine (iChin q1 qb qc1 qbc xs ms _ OA.out.rd OB.out.rd n1 nb CB.out).mono ?_
    rintro e w2 ⟨rfl, hb⟩
    have OA := Lib.hid (OA.out.keep hb)
    have OB := Lib.hid (OB.out.keep hb)
    have B := Lib.hid (stepB B.out hb)
    clear hb
    rw [HX.out, HN.out, HF.out]
    go_wp2_with (fail)
    refine (sChinG q1 qb qc1 qbc xs ms _ OA.out.rd OB.out.rd n1 nb).mono ?_
    rintro e w3 ⟨rfl, hb⟩
    have OA := Lib.hid (OA.out.keep hb)
    have OB := Lib.hid (OB.out.keep hb)
    have B := Lib.hid (stepB B.out hb)
    clear hb
    rw [HX.out, HN.out, HF.out]
    cases f with
    | false =>
      have z := chiX_none HF.out
      have y1 : x = 0 := by rw [← HX.out, z]
      have y2 : n = 0 := by rw [← HN.out, z]
      subst y1 y2
      clear z
      go_wp2_with (fail)
      go_ret
      exact ⟨rfl, B.out⟩
    | true =>
      have e0 : chiX xs ms = (x, n, true) := by rw [← HX.out, ← HN.out, ← HF.out]
      obtain ⟨m1, m2, m3, m4, x0, x1, n2, m5, m6⟩ := chinese_law e0
      obtain ⟨s1, s2, s3, s4⟩ := symm_law x0 x1 n2
      have M1 := Lib.hid m1
      have M2 := Lib.hid m2
      have M3 := Lib.hid m3
      have M4 := Lib.hid m4
      have M5 := Lib.hid m5
      have M6 := Lib.hid m6
      have S1 := Lib.hid s1
      have S2 := Lib.hid s2
      have l8 := (modB_says m1).1
      have RA := Lib.hid OA.out.rd
      have RB := Lib.hid OB.out.rd
      obtain ⟨N, hN⟩ : ∃ N, ms.length = N := ⟨_, rfl⟩
      have XN := Lib.hid hN
      have XL : Hid (xs.length = N) := m2.trans hN
      clear e0 m1 m2 m3 m4 m5 m6 s1 s2
      have BC := Lib.hid B.out
      go_wp2_with (fail)
      have lN : N ≤ 8 := by omega
      clear hN
      go_loopw [11] (fun v11 wr => ∃ i : Nat, v11 = .int .i64 i ∧ i ≤ N ∧ ∃ k, wr = w3.drewN k) (fun v11 _ => N - (intOf v11).toNat)
      case atStart => exact ⟨0, rfl, by omega, 0, rfl⟩
      case round =>
        obtain ⟨i, rfl, hi, k, rfl⟩ := hrel
        by_cases hlt : i < N
        · obtain ⟨b1, o1, rfl, c1⟩ := RA.out i (by rw [XL.out]; exact hlt)
          obtain ⟨b2, o2, rfl, c2⟩ := RB.out i (by rw [XN.out]; exact hlt)
          have q1 := M5.out i (by rw [XN.out]; exact hlt)
          have q2 := M6.out i (by rw [XN.out]; exact hlt)
          have q3 := chi_nums M3.out M2.out (i := i) (by rw [XN.out]; exact hlt)
          have il1 : (i : Int) < (xs.length : Int) := by have := XL.out; omega
          have il2 : (i : Int) < (ms.length : Int) := by have := XN.out; omega
          have q1 : Int.tmod (x - xs.getD i 0) (ms.getD i 0) = 0 := q1
          have q2 : 2 ≤ ms.getD i 0 ∧ ms.getD i 0 ≤ 400000000 := q2
          generalize xs.getD i 0 = r at c1 q1 q3
          generalize ms.getD i 0 = p at c2 q1 q2
          obtain ⟨p0, p1⟩ := q2
          obtain ⟨r0, r1⟩ := q3
          obtain ⟨y, hy⟩ : ∃ y, x - r = y := ⟨_, rfl⟩
          rw [hy] at q1
          have d1 : IntKind.i64.wrap (x - r) = y := by rw [← hy]; exact IntWalk.i64_in _ (by omega)
          clear hy
          have n0 : (p == 0) = false := by simp; omega
          have n3 : ¬ p = 0 := by omega
          go_wp2_with (fail)
          go_quiet (fail)
          go_wp2_with (fail)
          go_roundw
          case rel => exact ⟨i + 1, by go_num, by omega, _, rfl⟩
          case measure => simp [intOf]; omega
        · obtain rfl : i = N := by omega
          have BK := Lib.hid (below_drewN BC.out k)
          have d1 : IntKind.i64.wrap (x - symM x n) = x - symM x n := IntWalk.i64_in _ (by omega)
          have d2 : IntKind.i64.wrap (2 * symM x n) = 2 * symM x n := IntWalk.i64_in _ (by omega)
          have d3 : IntKind.i64.wrap (-n) = -n := IntWalk.i64_in _ (by omega)
          have z0 : (n == 0) = false := by simp; omega
          have z1 : ¬ n = 0 := by omega
          have t2 := S2.out
          go_wp2_with (fail)
          refine (iSymmG x n _).mono ?_
          rintro e w7 ⟨rfl, hb⟩
          rw [S1.out]
          have RB7 := Lib.hid ((RB.out.drewN k).below hb)
          have B7 := Lib.hid (BK.out.trans (hb.mono BK.out.size))
          clear hb
          generalize symM x n = y at s3 s4 d1 d2 t2 ⊢
          go_wp2_with (fail)
          have MC := iModuG qb qbc ms w7 RB7.out nb CB.out
          rw [XN.out, M1.out] at MC
          refine MC.mono ?_
          rintro e w8 ⟨rfl, hb⟩
          have RB8 := Lib.hid (RB7.out.below hb)
          have B8 := Lib.hid (B7.out.trans (hb.mono B7.out.size))
          clear hb MC
          go_wp2_with (fail)
          have PC := lProd9 qb qbc ms w8 RB8.out M1.out
          rw [← M4.out, XN.out] at PC
          refine PC.mono ?_
          rintro e w9 ⟨rfl, rfl⟩
          clear PC
          go_wp2_with (fail)
          go_ret
          exact ⟨rfl, B8.out⟩
  · have hbig' : 1048576 < len0 := by omega
    clear hbig
    go_enter Try.func3, Try.ntmps3
    go_wp2_with (fail)
    refine (big_yes w a0 len0 cap0 hbig').mono ?_
    rintro e w1 ⟨rfl, rfl⟩
    go_wp2_with (fail)
    go_ret
    exact ⟨rfl, Below.refl _ _⟩

/-! ### The row's step -/
set_option maxRecDepth 100000 in
theorem lifted (os : Os) (started : os.Started) (H : Type) (enc : TypeId × Value → H) :
    ReturnsInHanded {} Try.checked os 3 .any (Rows.fnChineseSpec.pre6 enc Try.prog Try.f3 Rows.fnChineseRow.domain false) (Rows.fnChineseSpec.post enc Try.prog Try.f3 false true false false) := by
  refine returnsInHanded_of_change (C := Try.checked) own started (by kernel_rfl) Try.func3
    (ChangeSpec.witness6 (enc := enc) (C := Try.checked) false ⟨#[], #[.slice none 0 0], []⟩ 8 (by kernel_rfl) (by kernel_rfl) (by kernel_rfl) (by kernel_rfl)) ?_
  intro W base args ds gs before hval0 hW hcnd _
  have hval : ∀ (j : Nat) t v, Try.f3.params[j]? = some t → args[j]? = some v → Value.okWide Try.prog W .any base t v := hval0
  have hW' := hW
  obtain ⟨p, q, hA0, hV, rfl, hfz, hnd⟩ := hW
  have hA : DataW.TrodAll enc Try.prog W 0 (fun _ => true) true Try.f3.params.toList args.toList ds p := hA0
  rw [Try.params3] at hA hval
  obtain ⟨v0, vs0, d0, ds0, p0, q0, hargs, rfl, rfl, h0, r0⟩ := trodAll_cons hA
  obtain ⟨rfl, rfl, rfl⟩ := trodAll_nil r0
  obtain rfl : args = #[v0] := by cases args; simp_all
  obtain ⟨rfl, rfl⟩ := trodVars_none hV
  have k0 := h0
  have lt0 : ∀ x ∈ p0, x.block < W.heap.size := by obtain ⟨m, hm⟩ := k0; exact DataW.trod_lt m _ _ _ hm
  obtain ⟨a0, len0, cap0, rfl⟩ := okWide_slice Try.underlying22 (hval 0 22 v0 rfl rfl)
  obtain ⟨fuel0, hf0⟩ := h0
  obtain ⟨z0, w0⟩ : ∃ zs, IsRow .u8 W a0 len0 cap0 zs := isRow_of Try.underlying22 Try.underlying5 (by kernel_rfl) (by simpa [Value.cells] using hf0)
  clear hA0 hval0
  refine (walk a0 len0 cap0 z0 W w0).mono fun e W' ⟨he, bel⟩ => ?_
  subst he
  exact ⟨_, rfl, _, _, _, [], _, [], hW', trodAll_mk1 (shut_bool Try.underlying4 _), (trodAll_cons_mk (Below.trod laidOut (by kernel_rfl) (of_decide_eq_true (by kernel_rfl)) k0 bel lt0) trodAll_mk0), rfl, bel.frame _, fun h => by cases h⟩

theorem over : Rows.fnChineseRow.holds Try.pinned (OpenSpec.ofChange Rows.fnChineseSpec) :=
  OpenClaim.holds_of_wide 3 Try.f3 rfl rfl rfl rfl rfl rfl rfl ⟨rfl, rfl, rfl, rfl, rfl⟩ rfl rfl rfl rfl rfl (by kernel_rfl) Try.func3 (by kernel_rfl)
    (of_decide_eq_true (by kernel_rfl)) (by unfold Func.isWrapper; first | (rw [if_pos (by decide +kernel)]; kernel_rfl) | (rw [if_neg (by decide +kernel)]; exact ⟨rfl, rfl⟩))
    (fun os started H enc _ => lifted os started H enc)

/-- ████ THE STATEMENT ████ -/
theorem proved : Rows.FnChineseSaid := over
#print axioms proved
end Go.Proofs.Ytgemkfcapkfdbaa.fnChinese
