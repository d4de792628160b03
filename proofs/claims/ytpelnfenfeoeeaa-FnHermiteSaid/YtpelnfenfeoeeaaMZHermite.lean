/-
  Proved: for every code, the law FnHermite returns true: Hermite forms come with the unimodular matrices that make them, and unimodular multiples of one matrix have one form, wherever all are found.
  Conditions: none beyond the row's own (the argument reads as data).
-/
import Derived.Test.YtpelnfenfeoeeaaRows
import Derived.ChangeOld
import Derived.Below
import Derived.Deep.RegionHeld3
import Derived.Deep.DeepCutAuto
import Derived.WalkKit
import Derived.ProofKit
import Derived.OpenShut
import Derived.ShutString
import Derived.Carry
import Derived.Lib.SmallJoins
import Derived.Test.YtpelnfenfeoeeaaPk46
import Derived.Test.YtpelnfenfeoeeaaPk50
import Derived.Test.YtpelnfenfeoeeaaPk51
import Derived.Test.YtpelnfenfeoeeaaPk52
import Derived.Test.YtpelnfenfeoeeaaPk55
import Derived.Test.YtpelnfenfeoeeaaPk56

namespace Go.Proofs.Ytpelnfenfeoeeaa.fnHermite
open Go.ChangeShapes Go.WideShapes Go.ChangeAt Go.RowKit
open Go.ChangeMaps (open_string shut_string)
set_option linter.unusedVariables false

theorem own : ownKnob Try.prog.godebug = none := by kernel_rfl
theorem laidOut : laidOutB Try.prog = true := by kernel_rfl

/-- What the walk is told of a slice of integers that came in: it is nil; or it leads to a row of 'cap' cells, the numbers 'zs' (the first 'len' are its elements), each fitting its kind. -/
def IsRow (k : IntKind) (w : World) (a : Option Addr) (len cap : Nat) (zs : List Int) : Prop :=
  (a = none ∧ len = 0 ∧ cap = 0 ∧ zs = []) ∨
  ∃ x, a = some x ∧ len ≤ cap ∧ cap ≤ maxLen ∧ zs.length = cap ∧ (∀ i, i < zs.length → w.cell? (x.add i) = some (.int k (zs.getD i 0))) ∧ ∀ n ∈ zs, (Lit.int k n).wf = true
theorem isRow_of {H : Type} {enc : TypeId × Value → H} {P : Program} {W : World} {base : Nat} {held : Bool} {t e : TypeId} {k : IntKind} {a : Option Addr} {len cap fuel : Nat} {x : DataW H × List MemPlace}
    (ht : P.underlying t = some (.slice e)) (he : P.underlying e = some (.int k)) (hc : P.cellsOf e = 1) (hf : DataW.trod enc P W base (fun _ => true) held fuel t [.slice a len cap] = some x) : ∃ zs, IsRow k W a len cap zs := by
  rcases open_ints ht he hc hf with ⟨hcs, _⟩ | ⟨x, l, c, zs, hcs, _, hl, hm, hz, _, hcell, hwz⟩
  · simp at hcs
    obtain ⟨rfl, rfl, rfl⟩ := hcs
    exact ⟨[], .inl ⟨rfl, rfl, rfl, rfl⟩⟩
  · simp at hcs
    obtain ⟨rfl, rfl, rfl⟩ := hcs
    exact ⟨zs, .inr ⟨_, rfl, hl, hm, by simpa using hz, hcell, hwz⟩⟩
theorem _root_.Go.Proofs.Ytpelnfenfeoeeaa.Own.old {B : Nat} {w : World} {v : Value} {zs : List Int} (h : Own B w v zs) (o : Obj) : Own B (w.alloc o) v zs := h.keep ((Below.refl _ _).alloc (Nat.le_refl _) o)
theorem _root_.Go.Proofs.Ytpelnfenfeoeeaa.Own.rd {B : Nat} {w : World} {a : Option Addr} {n cap : Nat} {zs : List Int} (h : Own B w (.slice a n cap) zs) : Rd w a zs := by
  obtain ⟨a', c', e, hr, -⟩ := h.form
  injection e with e1 e2 e3
  rw [e1]; exact hr
theorem her_none {r c : Int} {xs : List Int} (h : (herR r c xs).ok = false) : herR r c xs = HR.no := by
  unfold herR at h ⊢
  split
  · next hm =>
    rw [if_pos hm] at h
    cases hx : herX r.toNat c.toNat xs with
    | none => rfl
    | some s => rw [hx] at h; cases h
  · rfl
theorem sameQ12 (r c r' c' : Int) (xs ys : List Int) (a b : Option Addr) (m n : Nat) (w : World) (e1 : r = r') (e2 : c = c') (e3 : xs = ys) (h : Rd w a xs) (h' : Rd w b ys) (hn : ys.length ≤ 16777216) :
    Calls Try.prog 44 #[.agg #[.int .i64 r, .int .i64 c, .slice a xs.length m], .agg #[.int .i64 r', .int .i64 c', .slice b ys.length n]] w (Gives (.bool true) w) := by
  subst e1 e2 e3
  have := iSame r c r c a b m n xs xs w h h' hn hn
  rw [sameM_self] at this
  exact this
theorem codeIn_of_row {w : World} {a : Option Addr} {len cap : Nat} {zs : List Int} (h : IsRow .u8 w a len cap zs) : CodeIn w a len := by
  rcases h with ⟨rfl, rfl, rfl, rfl⟩ | ⟨x, rfl, hl, hm, hz, hcell, hwf⟩
  · exact codeIn_none w
  · exact codeIn_some hl hm hz hcell hwf
set_option maxRecDepth 100000 in
set_option maxHeartbeats 16000000 in

theorem walk (a0 : Option Addr) (len0 cap0 : Nat) (z0 : List Int) (w : World) (w0 : IsRow .u8 w a0 len0 cap0 z0) :
    Calls Try.prog 10 #[.slice a0 len0 cap0] w fun e w' => e = .returned (.bool true) ∧ Below w.heap.size w w' := by
  have hc : CodeIn w a0 len0 := codeIn_of_row w0
  have hl := hc.1
  have HC := Lib.hid hc
  clear w0 hc
  unfold maxLen at hl
  by_cases hbig : len0 ≤ 1048576
  · go_enter Try.func10, Try.ntmps10
    go_wp2_with (fail)
    refine (big_no w a0 len0 cap0 hbig).mono ?_
    rintro e w1 ⟨rfl, rfl⟩
    go_wp2_with (fail)
    refine (drawHer w a0 len0 cap0 HC.out).mono ?_
    rintro e w1 ⟨r, c, q1, qc1, xs, rfl, o1, l1, hb⟩
    have B := Lib.hid hb
    have SP := Lib.hid o1.spot2
    have OA := Lib.hid (o1.le (Nat.zero_le _))
    have n1 : xs.length ≤ 16777216 := by omega
    clear hb o1
    go_wp2_with (fail)
    obtain ⟨eA, heA⟩ : ∃ m, herR r c xs = m := ⟨_, rfl⟩
    have HeA := Lib.hid heA
    clear heA
    refine (iHerm r c q1 qc1 xs _ (OA.out.old _).rd n1 SP.out).mono ?_
    rintro e w2 ⟨va, vb, rfl, oa, ob, -, hb⟩
    rw [HeA.out] at oa ob ⊢
    obtain ⟨qFa, cFa, rfl, -, nFa, sFa, lFa, zFa⟩ := oa.form2
    obtain ⟨qFb, cFb, rfl, -, nFb, sFb, -, -⟩ := ob.form2
    have OA := Lib.hid ((OA.out.old _).keep hb)
    have KA : Hid (Blk3 w2 w1.heap.size 26 (.int .i64 (r)) (.int .i64 (c)) (.slice q1 xs.length qc1)) := (Blk3.at_ _ _ _ _ rfl).step hb
    have B := Lib.hid (stepB (B.out.alloc B.out.size _) hb)
    clear hb
    have OFa := Lib.hid (oa.le (Nat.zero_le _))
    have OFb := Lib.hid (ob.le (Nat.zero_le _))
    clear oa ob
    obtain ⟨cc1_00, cc1_01, cc1_02, -, -, -⟩ := KA.out.all
    have ll1_0 := KA.out.lt
    go_wp2_with (fail)
    refine (sHerm r c q1 qc1 xs _ ((OA.out.old _).old _).rd n1 SP.out).mono ?_
    rintro e w3 ⟨va, vb, rfl, oa, ob, -, hb⟩
    rw [HeA.out] at oa ob ⊢
    obtain ⟨qTa, cTa, rfl, -, nTa, sTa, lTa, zTa⟩ := oa.form2
    obtain ⟨qTb, cTb, rfl, -, nTb, sTb, -, -⟩ := ob.form2
    have OA := Lib.hid (((OA.out.old _).old _).keep hb)
    have KA := Lib.hid (((KA.out.old _).old _).step hb)
    have OFa := Lib.hid (((OFa.out.old _).old _).keep hb)
    have OFb := Lib.hid (((OFb.out.old _).old _).keep hb)
    have KFa : Hid (Blk3 w3 w2.heap.size 26 (.int .i64 (eA.r1)) (.int .i64 (eA.c1)) (.slice qFa eA.zs.length cFa)) := ((Blk3.at_ _ _ _ _ rfl).old _).step hb
    have KFb : Hid (Blk3 w3 (w2.heap.size + 1) 26 (.int .i64 (eA.r2)) (.int .i64 (eA.c2)) (.slice qFb eA.us.length cFb)) := (Blk3.at_ _ _ _ _ (by simp)).step hb
    have B := Lib.hid (stepB ((B.out.alloc B.out.size _).alloc (B.out.alloc B.out.size _).size _) hb)
    clear hb
    have OTa := Lib.hid (oa.le (Nat.zero_le _))
    have OTb := Lib.hid (ob.le (Nat.zero_le _))
    clear oa ob
    obtain ⟨cc2_00, cc2_01, cc2_02, -, -, -⟩ := KA.out.all
    have ll2_0 := KA.out.lt
    obtain ⟨cc2_10, cc2_11, cc2_12, -, -, -⟩ := KFa.out.all
    have ll2_1 := KFa.out.lt
    obtain ⟨cc2_20, cc2_21, cc2_22, -, -, -⟩ := KFb.out.all
    have ll2_2 := KFb.out.lt
    rcases Bool.eq_false_or_eq_true eA.ok with hf | hf
    rotate_left
    · rw [hf]
      have zA : eA = HR.no := by rw [← HeA.out]; exact her_none (by rw [HeA.out]; exact hf)
      have y1 : ((eA.zs.length : Int) == 0) = true := by rw [zA]; rfl
      have y2 : ((eA.us.length : Int) == 0) = true := by rw [zA]; rfl
      clear zA
      obtain ⟨cc3_00, cc3_01, cc3_02, -, -, -⟩ := KA.out.all
      have ll3_0 := KA.out.lt
      obtain ⟨cc3_10, cc3_11, cc3_12, -, -, -⟩ := KFa.out.all
      have ll3_1 := KFa.out.lt
      obtain ⟨cc3_20, cc3_21, cc3_22, -, -, -⟩ := KFb.out.all
      have ll3_2 := KFb.out.lt
      go_wp2_with (fail)
      go_ret
      exact ⟨rfl, ((B.out.alloc B.out.size _).alloc (B.out.alloc B.out.size _).size _)⟩
    rw [hf]
    obtain ⟨f1, f2, f3, f4, f5, f6, f7⟩ := her_fix HeA.out hf
    have F1 := Lib.hid f1
    have F2 := Lib.hid (And.intro f2 (And.intro f3 f4))
    have F5 := Lib.hid f5
    clear f1 f2 f3 f4 f5
    have UN := Lib.hid (her_uni HeA.out hf)
    obtain ⟨cc3_00, cc3_01, cc3_02, -, -, -⟩ := KA.out.all
    have ll3_0 := KA.out.lt
    obtain ⟨cc3_10, cc3_11, cc3_12, -, -, -⟩ := KFa.out.all
    have ll3_1 := KFa.out.lt
    obtain ⟨cc3_20, cc3_21, cc3_22, -, -, -⟩ := KFb.out.all
    have ll3_2 := KFb.out.lt
    go_wp2_with (fail)
    obtain ⟨mX, hmX⟩ : ∃ m, mulM eA.r2 eA.c2 eA.us r c xs = m := ⟨_, rfl⟩
    have HmX := Lib.hid hmX
    clear hmX
    refine (iMul eA.r2 eA.c2 r c qFb q1 cFb qc1 eA.us xs _ ((OFb.out.old _).old _).rd ((OA.out.old _).old _).rd nFb n1).mono ?_
    rintro e w4 ⟨vX, rfl, own, hb⟩
    rw [HmX.out] at own ⊢
    obtain ⟨qX, qcX, rfl, -, -⟩ := own.form
    have nX := own.small
    have OA := Lib.hid (((OA.out.old _).old _).keep hb)
    have KA := Lib.hid (((KA.out.old _).old _).step hb)
    have OFa := Lib.hid (((OFa.out.old _).old _).keep hb)
    have OFb := Lib.hid (((OFb.out.old _).old _).keep hb)
    have KFa := Lib.hid (((KFa.out.old _).old _).step hb)
    have KFb := Lib.hid (((KFb.out.old _).old _).step hb)
    have OTa := Lib.hid (((OTa.out.old _).old _).keep hb)
    have OTb := Lib.hid (((OTb.out.old _).old _).keep hb)
    have KTa : Hid (Blk3 w4 w3.heap.size 26 (.int .i64 (eA.r1)) (.int .i64 (eA.c1)) (.slice qTa eA.zs.length cTa)) := ((Blk3.at_ _ _ _ _ rfl).old _).step hb
    have KTb : Hid (Blk3 w4 (w3.heap.size + 1) 26 (.int .i64 (eA.r2)) (.int .i64 (eA.c2)) (.slice qTb eA.us.length cTb)) := (Blk3.at_ _ _ _ _ (by simp)).step hb
    have B := Lib.hid (stepB ((B.out.alloc B.out.size _).alloc (B.out.alloc B.out.size _).size _) hb)
    clear hb
    have OX := Lib.hid (own.le (Nat.zero_le _))
    clear own
    obtain ⟨cc4_00, cc4_01, cc4_02, -, -, -⟩ := KA.out.all
    have ll4_0 := KA.out.lt
    obtain ⟨cc4_10, cc4_11, cc4_12, -, -, -⟩ := KFa.out.all
    have ll4_1 := KFa.out.lt
    obtain ⟨cc4_20, cc4_21, cc4_22, -, -, -⟩ := KFb.out.all
    have ll4_2 := KFb.out.lt
    obtain ⟨cc4_30, cc4_31, cc4_32, -, -, -⟩ := KTa.out.all
    have ll4_3 := KTa.out.lt
    obtain ⟨cc4_40, cc4_41, cc4_42, -, -, -⟩ := KTb.out.all
    have ll4_4 := KTb.out.lt
    obtain ⟨cc5_00, cc5_01, cc5_02, -, -, -⟩ := KA.out.all
    obtain ⟨cc5_10, cc5_11, cc5_12, -, -, -⟩ := KFa.out.all
    obtain ⟨cc5_20, cc5_21, cc5_22, -, -, -⟩ := KFb.out.all
    obtain ⟨cc5_30, cc5_31, cc5_32, -, -, -⟩ := KTa.out.all
    obtain ⟨cc5_40, cc5_41, cc5_42, -, -, -⟩ := KTb.out.all
    go_upto_region 11 with (fail)
    obtain ⟨wz4, hw⟩ : ∃ x, w4.alloc (.cells #[.int .i64 mX.r, .int .i64 mX.c, .slice qX mX.zs.length qcX] 26) = x := ⟨_, rfl⟩
    have OA := Lib.hid (OA.out.old (.cells #[.int .i64 mX.r, .int .i64 mX.c, .slice qX mX.zs.length qcX] 26))
    have KA := Lib.hid (KA.out.old (.cells #[.int .i64 mX.r, .int .i64 mX.c, .slice qX mX.zs.length qcX] 26))
    have OFa := Lib.hid (OFa.out.old (.cells #[.int .i64 mX.r, .int .i64 mX.c, .slice qX mX.zs.length qcX] 26))
    have OFb := Lib.hid (OFb.out.old (.cells #[.int .i64 mX.r, .int .i64 mX.c, .slice qX mX.zs.length qcX] 26))
    have KFa := Lib.hid (KFa.out.old (.cells #[.int .i64 mX.r, .int .i64 mX.c, .slice qX mX.zs.length qcX] 26))
    have KFb := Lib.hid (KFb.out.old (.cells #[.int .i64 mX.r, .int .i64 mX.c, .slice qX mX.zs.length qcX] 26))
    have OTa := Lib.hid (OTa.out.old (.cells #[.int .i64 mX.r, .int .i64 mX.c, .slice qX mX.zs.length qcX] 26))
    have OTb := Lib.hid (OTb.out.old (.cells #[.int .i64 mX.r, .int .i64 mX.c, .slice qX mX.zs.length qcX] 26))
    have KTa := Lib.hid (KTa.out.old (.cells #[.int .i64 mX.r, .int .i64 mX.c, .slice qX mX.zs.length qcX] 26))
    have KTb := Lib.hid (KTb.out.old (.cells #[.int .i64 mX.r, .int .i64 mX.c, .slice qX mX.zs.length qcX] 26))
    have OX := Lib.hid (OX.out.old (.cells #[.int .i64 mX.r, .int .i64 mX.c, .slice qX mX.zs.length qcX] 26))
    have KX : Hid (Blk3 (w4.alloc (.cells #[.int .i64 mX.r, .int .i64 mX.c, .slice qX mX.zs.length qcX] 26)) w4.heap.size 26 (.int .i64 mX.r) (.int .i64 mX.c) (.slice qX mX.zs.length qcX)) := Blk3.at_ _ _ _ _ rfl
    have B := Lib.hid (B.out.alloc B.out.size (.cells #[.int .i64 mX.r, .int .i64 mX.c, .slice qX mX.zs.length qcX] 26))
    rw [hw] at OA KA OFa OFb KFa KFb OTa OTb KTa KTb OX B KX ⊢
    clear hw
    go_cut [12, 13] (fun s12 s13 wx => ∃ (p12 : Nat) (v0 : Value) (m : MR), s12 = .pointer (some ⟨p12, 0, none⟩) ∧ s13 = .bool m.ok ∧ Blk3 wx p12 26 (.int .i64 m.r) (.int .i64 m.c) v0 ∧ Own 0 wx v0 m.zs ∧ (∃ (rM cM : Int) (zM : List Int), MixP r rM cM zM ∧ mulM rM cM zM r c xs = m) ∧ Below wz4.heap.size wz4 wx)
    case first =>
      refine wp_region_held_drew (S := fun w' => Below wz4.heap.size wz4 w') (by kernel_rfl) (Below.refl _ _).drew (fun hH => ?_)
      refine wpAnyH_take (i := 0) (v := ?_) (by simp only [List.getElem?_toArray, List.getElem?_cons_zero]; rfl) (by kernel_rfl) (by kernel_rfl) (by kernel_rfl) (by exact fun _ _ _ h => h) (Or.inl ⟨by rfl, ?_⟩) hH ?_
      rotate_left
      · (intro wS hS; (try dsimp only at hS); obtain ⟨k1, k2, k3⟩ := cel3 (KA.out.step hS); go_simp; try rfl)
      try simp only [Act.put, List.setIfInBounds_toArray, List.set_cons_zero, List.set_cons_succ]
      refine wpAnyH_take (i := 1) (v := ?_) (by simp only [List.getElem?_toArray, List.getElem?_cons_succ, List.getElem?_cons_zero]; rfl) (by kernel_rfl) (by kernel_rfl) (by kernel_rfl) (by exact fun _ _ _ h => h) (Or.inl ⟨by rfl, ?_⟩) hH ?_
      rotate_left
      · (intro wS hS; (try dsimp only at hS); obtain ⟨k1, k2, k3⟩ := cel3 (KA.out.step hS); go_simp; try rfl)
      try simp only [Act.put, List.setIfInBounds_toArray, List.set_cons_zero, List.set_cons_succ]
      refine wpAnyH_take (i := 2) (v := ?_) (by simp only [List.getElem?_toArray, List.getElem?_cons_succ, List.getElem?_cons_zero]; rfl) (by kernel_rfl) (by kernel_rfl) (by kernel_rfl) (by exact fun _ _ _ h => h) (Or.inl ⟨by rfl, ?_⟩) hH ?_
      rotate_left
      · (intro wS hS; (try dsimp only at hS); obtain ⟨k1, k2, k3⟩ := cel3 (KA.out.step hS); go_simp; try rfl)
      try simp only [Act.put, List.setIfInBounds_toArray, List.set_cons_zero, List.set_cons_succ]
      refine wpAnyH_take (i := 4) (v := ?_) (by simp only [List.getElem?_toArray, List.getElem?_cons_succ, List.getElem?_cons_zero]; rfl) (by kernel_rfl) (by kernel_rfl) (by kernel_rfl) (by exact fun _ _ _ h => h) (Or.inl ⟨by rfl, ?_⟩) hH ?_
      rotate_left
      · (intro wS hS; (try dsimp only at hS); obtain ⟨k1, k2, k3⟩ := cel3 (KA.out.step hS); go_simp; try rfl)
      try simp only [Act.put, List.setIfInBounds_toArray, List.set_cons_zero, List.set_cons_succ]
      refine wpAnyH_ready (rs := [3, 9]) (by kernel_rfl) (by simp) ?_
      refine AllReadyH.cons (by simp only [List.getElem?_toArray, List.getElem?_cons_succ, List.getElem?_cons_zero]; rfl) (fun K hK => ?_) (AllReadyH.cons (by simp only [List.getElem?_toArray, List.getElem?_cons_succ, List.getElem?_cons_zero]; rfl) (fun K hK => ?_) AllReadyH.nil)
      · go_simp
        have hs1 := hH.size
        (with_reducible refine (lMixW r a0 len0 cap0 _ (HC.out.below (stepB B.out hH)) f6 f7).mono ?_)
        rintro e v1 ⟨rM, cM, qM, qcM, zM, rfl, ownM, pM, nM0, hb1⟩
        have nM : zM.length ≤ 16777216 := by omega
        have PM := Lib.hid pM
        have OM := Lib.hid ownM
        clear ownM pM
        try dsimp only
        refine hK.out _ _ ?_ (fun hH2 => ?_)
        · exact hH.trans (hb1.mono hH.size)
        clear hK K
        have hO := hH
        clear hH
        have hH := hH2
        clear hH2
        try simp only [Act.put, List.setIfInBounds_toArray, List.set_cons_zero, List.set_cons_succ]
        have z1 := hb1.size
        refine wpAnyH_ready (rs := [5, 9]) (by kernel_rfl) (by simp) ?_
        refine AllReadyH.cons (by simp only [List.getElem?_toArray, List.getElem?_cons_succ, List.getElem?_cons_zero]; rfl) (fun K hK => ?_) (AllReadyH.cons (by simp only [List.getElem?_toArray, List.getElem?_cons_succ, List.getElem?_cons_zero]; rfl) (fun K hK => ?_) AllReadyH.nil)
        · go_simp
          have hs2 := hH.size
          (with_reducible refine (iMul rM cM r c qM q1 qcM qc1 zM xs _ (OM.out.rd) (OA.out.keep hH).rd nM n1).mono ?_)
          rintro e v2 ⟨vP, rfl, own2, hb2⟩
          obtain ⟨mP, hmP⟩ : ∃ m, mulM rM cM zM r c xs = m := ⟨_, rfl⟩
          rw [hmP] at own2 ⊢
          have HmP := Lib.hid hmP
          obtain ⟨qP, qcP, rfl, -, -⟩ := own2.form
          have OP := Lib.hid own2
          clear own2 hmP
          try dsimp only
          refine hK.out _ _ ?_ (fun hH2 => ?_)
          · exact hH.trans (hb2.mono hH.size)
          clear hK K
          have hO := hH
          clear hH
          have hH := hH2
          clear hH2
          try simp only [Act.put, List.setIfInBounds_toArray, List.set_cons_zero, List.set_cons_succ]
          have z2 := hb2.size
          refine wpAnyH_take (i := 6) (v := ?_) (by simp only [List.getElem?_toArray, List.getElem?_cons_succ, List.getElem?_cons_zero]; rfl) (by kernel_rfl) (by kernel_rfl) (by kernel_rfl) (by exact fun _ _ _ h => h) (Or.inl ⟨by rfl, ?_⟩) hH ?_
          rotate_left
          · (intro wS hS; clear hS; go_simp; try rfl)
          try simp only [Act.put, List.setIfInBounds_toArray, List.set_cons_zero, List.set_cons_succ]
          refine wpAnyH_take (i := 7) (v := ?_) (by simp only [List.getElem?_toArray, List.getElem?_cons_succ, List.getElem?_cons_zero]; rfl) (by kernel_rfl) (by kernel_rfl) (by kernel_rfl) (by exact fun _ _ _ h => h) (Or.inl ⟨by rfl, ?_⟩) hH ?_
          rotate_left
          · (intro wS hS; clear hS; go_simp; try rfl)
          try simp only [Act.put, List.setIfInBounds_toArray, List.set_cons_zero, List.set_cons_succ]
          refine wpAnyH_take (i := 8) (v := ?_) (by simp only [List.getElem?_toArray, List.getElem?_cons_succ, List.getElem?_cons_zero]; rfl) (by kernel_rfl) (by kernel_rfl) (by kernel_rfl) (by exact fun _ _ _ h => h) (Or.inl ⟨by rfl, ?_⟩) hH ?_
          rotate_left
          · (intro wS hS; clear hS; go_simp; try rfl)
          try simp only [Act.put, List.setIfInBounds_toArray, List.set_cons_zero, List.set_cons_succ]
          refine wpAnyH_ready (rs := [9]) (by kernel_rfl) (by simp) ?_
          refine AllReadyH.cons (by simp only [List.getElem?_toArray, List.getElem?_cons_succ, List.getElem?_cons_zero]; rfl) (fun K hK => ?_) AllReadyH.nil
          go_simp
          have VB : Hid (Blk3 (v2.alloc (.cells #[.int .i64 0, .int .i64 0, .slice none 0 0] 26)) v2.heap.size 26 (.int .i64 0) (.int .i64 0) (.slice none 0 0)) := Blk3.at_ _ _ _ _ rfl
          have PL : wz4.heap.size ≤ v2.heap.size := hH.size
          try dsimp only
          refine hK.out _ _ ?_ (fun hH2 => ?_)
          · exact hH.alloc hH.size _
          clear hK K
          have hO := hH
          clear hH
          have hH := hH2
          clear hH2
          try simp only [Act.put, List.setIfInBounds_toArray, List.set_cons_zero, List.set_cons_succ]
          refine wpAnyH_ready (rs := [10]) (by kernel_rfl) (by simp) ?_
          refine AllReadyH.cons (by simp only [List.getElem?_toArray, List.getElem?_cons_succ, List.getElem?_cons_zero]; rfl) (fun K hK => ?_) AllReadyH.nil
          go_simp
          have VB : Hid (Blk3 (v2.alloc (.cells #[.int .i64 mP.r, .int .i64 mP.c, .slice qP mP.zs.length qcP] 26)) v2.heap.size 26 (.int .i64 mP.r) (.int .i64 mP.c) (.slice qP mP.zs.length qcP)) := Blk3.at_ _ _ _ _ rfl
          try dsimp only
          refine hK.out _ _ ?_ (fun hH2 => ?_)
          · exact hO.alloc hO.size _
          clear hK K
          have hO := hH
          clear hH
          have hH := hH2
          clear hH2
          try simp only [Act.put, List.setIfInBounds_toArray, List.set_cons_zero, List.set_cons_succ]
          refine wpAnyH_take (i := 11) (v := ?_) (by simp only [List.getElem?_toArray, List.getElem?_cons_succ, List.getElem?_cons_zero]; rfl) (by kernel_rfl) (by kernel_rfl) (by kernel_rfl) (by exact fun _ _ _ h => h) (Or.inl ⟨by rfl, ?_⟩) hH ?_
          rotate_left
          · (intro wS hS; clear hS; go_simp; try rfl)
          try simp only [Act.put, List.setIfInBounds_toArray, List.set_cons_zero, List.set_cons_succ]
          refine wpAnyH_done (by kernel_rfl) ?_ _
          go_wp2_with (fail)
          go_meet
          exact ⟨v2.heap.size, _, mP, rfl, rfl, VB.out, (OP.out.keep ((Below.refl _ _).alloc (Nat.le_refl _) _)).le (Nat.zero_le _), ⟨rM, cM, zM, PM.out, HmP.out⟩, hH⟩
        · go_simp
          have VB : Hid (Blk3 (v1.alloc (.cells #[.int .i64 0, .int .i64 0, .slice none 0 0] 26)) v1.heap.size 26 (.int .i64 0) (.int .i64 0) (.slice none 0 0)) := Blk3.at_ _ _ _ _ rfl
          have OM := Lib.hid (OM.out.old (.cells #[.int .i64 0, .int .i64 0, .slice none 0 0] 26))
          have PL : wz4.heap.size ≤ v1.heap.size := hH.size
          try dsimp only
          refine hK.out _ _ ?_ (fun hH2 => ?_)
          · exact hH.alloc hH.size _
          clear hK K
          have hO := hH
          clear hH
          have hH := hH2
          clear hH2
          try simp only [Act.put, List.setIfInBounds_toArray, List.set_cons_zero, List.set_cons_succ]
          refine wpAnyH_ready (rs := [5]) (by kernel_rfl) (by simp) ?_
          refine AllReadyH.cons (by simp only [List.getElem?_toArray, List.getElem?_cons_succ, List.getElem?_cons_zero]; rfl) (fun K hK => ?_) AllReadyH.nil
          go_simp
          have hs2 := hH.size
          have lb2 := VB.out.lt
          (with_reducible refine (iMul rM cM r c qM q1 qcM qc1 zM xs _ (OM.out.rd) (OA.out.keep hH).rd nM n1).mono ?_)
          rintro e v2 ⟨vP, rfl, own2, hb2⟩
          obtain ⟨mP, hmP⟩ : ∃ m, mulM rM cM zM r c xs = m := ⟨_, rfl⟩
          rw [hmP] at own2 ⊢
          have HmP := Lib.hid hmP
          obtain ⟨qP, qcP, rfl, -, -⟩ := own2.form
          have OP := Lib.hid own2
          clear own2 hmP
          have VB := Lib.hid (VB.out.keep hb2 VB.out.lt)
          try dsimp only
          refine hK.out _ _ ?_ (fun hH2 => ?_)
          · exact hH.trans (hb2.mono hH.size)
          clear hK K
          have hO := hH
          clear hH
          have hH := hH2
          clear hH2
          try simp only [Act.put, List.setIfInBounds_toArray, List.set_cons_zero, List.set_cons_succ]
          have z2 := hb2.size
          refine wpAnyH_take (i := 6) (v := ?_) (by simp only [List.getElem?_toArray, List.getElem?_cons_succ, List.getElem?_cons_zero]; rfl) (by kernel_rfl) (by kernel_rfl) (by kernel_rfl) (by exact fun _ _ _ h => h) (Or.inl ⟨by rfl, ?_⟩) hH ?_
          rotate_left
          · (intro wS hS; clear hS; go_simp; try rfl)
          try simp only [Act.put, List.setIfInBounds_toArray, List.set_cons_zero, List.set_cons_succ]
          refine wpAnyH_take (i := 7) (v := ?_) (by simp only [List.getElem?_toArray, List.getElem?_cons_succ, List.getElem?_cons_zero]; rfl) (by kernel_rfl) (by kernel_rfl) (by kernel_rfl) (by exact fun _ _ _ h => h) (Or.inl ⟨by rfl, ?_⟩) hH ?_
          rotate_left
          · (intro wS hS; clear hS; go_simp; try rfl)
          try simp only [Act.put, List.setIfInBounds_toArray, List.set_cons_zero, List.set_cons_succ]
          refine wpAnyH_take (i := 8) (v := ?_) (by simp only [List.getElem?_toArray, List.getElem?_cons_succ, List.getElem?_cons_zero]; rfl) (by kernel_rfl) (by kernel_rfl) (by kernel_rfl) (by exact fun _ _ _ h => h) (Or.inl ⟨by rfl, ?_⟩) hH ?_
          rotate_left
          · (intro wS hS; clear hS; go_simp; try rfl)
          try simp only [Act.put, List.setIfInBounds_toArray, List.set_cons_zero, List.set_cons_succ]
          refine wpAnyH_ready (rs := [10]) (by kernel_rfl) (by simp) ?_
          refine AllReadyH.cons (by simp only [List.getElem?_toArray, List.getElem?_cons_succ, List.getElem?_cons_zero]; rfl) (fun K hK => ?_) AllReadyH.nil
          have VC := VB
          obtain ⟨y0, y1, y2, y3, y4, y5⟩ := VB.out.all
          go_simp
          have VB := Lib.hid (((VB.out.set0 (.int .i64 mP.r)).set1 (.int .i64 mP.c)).set2 (.slice qP mP.zs.length qcP))
          try dsimp only
          refine hK.out _ _ ?_ (fun hH2 => ?_)
          · exact (((hH.setCell PL _).setCell PL _).setCell PL _)
          clear hK K
          have hO := hH
          clear hH
          have hH := hH2
          clear hH2
          try simp only [Act.put, List.setIfInBounds_toArray, List.set_cons_zero, List.set_cons_succ]
          refine wpAnyH_take (i := 11) (v := ?_) (by simp only [List.getElem?_toArray, List.getElem?_cons_succ, List.getElem?_cons_zero]; rfl) (by kernel_rfl) (by kernel_rfl) (by kernel_rfl) (by exact fun _ _ _ h => h) (Or.inl ⟨by rfl, ?_⟩) hH ?_
          rotate_left
          · (intro wS hS; clear hS; go_simp; try rfl)
          try simp only [Act.put, List.setIfInBounds_toArray, List.set_cons_zero, List.set_cons_succ]
          refine wpAnyH_done (by kernel_rfl) ?_ _
          go_wp2_with (fail)
          go_meet
          exact ⟨v1.heap.size, _, mP, rfl, rfl, VB.out, (((OP.out.far (by exact lb2) _).far (by exact lb2) _).far (by exact lb2) _).le (Nat.zero_le _), ⟨rM, cM, zM, PM.out, HmP.out⟩, hH⟩
      · go_simp
        have VB : Hid (Blk3 (wz4.drew.alloc (.cells #[.int .i64 0, .int .i64 0, .slice none 0 0] 26)) wz4.heap.size 26 (.int .i64 0) (.int .i64 0) (.slice none 0 0)) := Blk3.at_ _ _ _ _ rfl
        have PL : wz4.heap.size ≤ wz4.drew.heap.size := hH.size
        try dsimp only
        refine hK.out _ _ ?_ (fun hH2 => ?_)
        · exact hH.alloc hH.size _
        clear hK K
        have hO := hH
        clear hH
        have hH := hH2
        clear hH2
        try simp only [Act.put, List.setIfInBounds_toArray, List.set_cons_zero, List.set_cons_succ]
        refine wpAnyH_ready (rs := [3]) (by kernel_rfl) (by simp) ?_
        refine AllReadyH.cons (by simp only [List.getElem?_toArray, List.getElem?_cons_succ, List.getElem?_cons_zero]; rfl) (fun K hK => ?_) AllReadyH.nil
        go_simp
        have hs1 := hH.size
        have lb1 := VB.out.lt
        (with_reducible refine (lMixW r a0 len0 cap0 _ (HC.out.below (stepB B.out hH)) f6 f7).mono ?_)
        rintro e v1 ⟨rM, cM, qM, qcM, zM, rfl, ownM, pM, nM0, hb1⟩
        have nM : zM.length ≤ 16777216 := by omega
        have PM := Lib.hid pM
        have OM := Lib.hid ownM
        clear ownM pM
        have VB := Lib.hid (VB.out.keep hb1 VB.out.lt)
        try dsimp only
        refine hK.out _ _ ?_ (fun hH2 => ?_)
        · exact hH.trans (hb1.mono hH.size)
        clear hK K
        have hO := hH
        clear hH
        have hH := hH2
        clear hH2
        try simp only [Act.put, List.setIfInBounds_toArray, List.set_cons_zero, List.set_cons_succ]
        have z1 := hb1.size
        refine wpAnyH_ready (rs := [5]) (by kernel_rfl) (by simp) ?_
        refine AllReadyH.cons (by simp only [List.getElem?_toArray, List.getElem?_cons_succ, List.getElem?_cons_zero]; rfl) (fun K hK => ?_) AllReadyH.nil
        go_simp
        have hs2 := hH.size
        have lb2 := VB.out.lt
        (with_reducible refine (iMul rM cM r c qM q1 qcM qc1 zM xs _ (OM.out.rd) (OA.out.keep hH).rd nM n1).mono ?_)
        rintro e v2 ⟨vP, rfl, own2, hb2⟩
        obtain ⟨mP, hmP⟩ : ∃ m, mulM rM cM zM r c xs = m := ⟨_, rfl⟩
        rw [hmP] at own2 ⊢
        have HmP := Lib.hid hmP
        obtain ⟨qP, qcP, rfl, -, -⟩ := own2.form
        have OP := Lib.hid own2
        clear own2 hmP
        have VB := Lib.hid (VB.out.keep hb2 VB.out.lt)
        try dsimp only
        refine hK.out _ _ ?_ (fun hH2 => ?_)
        · exact hH.trans (hb2.mono hH.size)
        clear hK K
        have hO := hH
        clear hH
        have hH := hH2
        clear hH2
        try simp only [Act.put, List.setIfInBounds_toArray, List.set_cons_zero, List.set_cons_succ]
        have z2 := hb2.size
        refine wpAnyH_take (i := 6) (v := ?_) (by simp only [List.getElem?_toArray, List.getElem?_cons_succ, List.getElem?_cons_zero]; rfl) (by kernel_rfl) (by kernel_rfl) (by kernel_rfl) (by exact fun _ _ _ h => h) (Or.inl ⟨by rfl, ?_⟩) hH ?_
        rotate_left
        · (intro wS hS; clear hS; go_simp; try rfl)
        try simp only [Act.put, List.setIfInBounds_toArray, List.set_cons_zero, List.set_cons_succ]
        refine wpAnyH_take (i := 7) (v := ?_) (by simp only [List.getElem?_toArray, List.getElem?_cons_succ, List.getElem?_cons_zero]; rfl) (by kernel_rfl) (by kernel_rfl) (by kernel_rfl) (by exact fun _ _ _ h => h) (Or.inl ⟨by rfl, ?_⟩) hH ?_
        rotate_left
        · (intro wS hS; clear hS; go_simp; try rfl)
        try simp only [Act.put, List.setIfInBounds_toArray, List.set_cons_zero, List.set_cons_succ]
        refine wpAnyH_take (i := 8) (v := ?_) (by simp only [List.getElem?_toArray, List.getElem?_cons_succ, List.getElem?_cons_zero]; rfl) (by kernel_rfl) (by kernel_rfl) (by kernel_rfl) (by exact fun _ _ _ h => h) (Or.inl ⟨by rfl, ?_⟩) hH ?_
        rotate_left
        · (intro wS hS; clear hS; go_simp; try rfl)
        try simp only [Act.put, List.setIfInBounds_toArray, List.set_cons_zero, List.set_cons_succ]
        refine wpAnyH_ready (rs := [10]) (by kernel_rfl) (by simp) ?_
        refine AllReadyH.cons (by simp only [List.getElem?_toArray, List.getElem?_cons_succ, List.getElem?_cons_zero]; rfl) (fun K hK => ?_) AllReadyH.nil
        have VC := VB
        obtain ⟨y0, y1, y2, y3, y4, y5⟩ := VB.out.all
        go_simp
        have VB := Lib.hid (((VB.out.set0 (.int .i64 mP.r)).set1 (.int .i64 mP.c)).set2 (.slice qP mP.zs.length qcP))
        try dsimp only
        refine hK.out _ _ ?_ (fun hH2 => ?_)
        · exact (((hH.setCell PL _).setCell PL _).setCell PL _)
        clear hK K
        have hO := hH
        clear hH
        have hH := hH2
        clear hH2
        try simp only [Act.put, List.setIfInBounds_toArray, List.set_cons_zero, List.set_cons_succ]
        refine wpAnyH_take (i := 11) (v := ?_) (by simp only [List.getElem?_toArray, List.getElem?_cons_succ, List.getElem?_cons_zero]; rfl) (by kernel_rfl) (by kernel_rfl) (by kernel_rfl) (by exact fun _ _ _ h => h) (Or.inl ⟨by rfl, ?_⟩) hH ?_
        rotate_left
        · (intro wS hS; clear hS; go_simp; try rfl)
        try simp only [Act.put, List.setIfInBounds_toArray, List.set_cons_zero, List.set_cons_succ]
        refine wpAnyH_done (by kernel_rfl) ?_ _
        go_wp2_with (fail)
        go_meet
        exact ⟨wz4.heap.size, _, mP, rfl, rfl, VB.out, (((OP.out.far (by exact lb2) _).far (by exact lb2) _).far (by exact lb2) _).le (Nat.zero_le _), ⟨rM, cM, zM, PM.out, HmP.out⟩, hH⟩
    case rest =>
      obtain ⟨p12, v12, mP, rfl, rfl, k12, ob12, ⟨rM, cM, zM, pM, hmP⟩, hb⟩ := hcut
      obtain ⟨qP, qcP, rfl, -, nP, sP, -, -⟩ := ob12.form2
      have OA := Lib.hid (OA.out.keep hb)
      have KA := Lib.hid (KA.out.step hb)
      have OFa := Lib.hid (OFa.out.keep hb)
      have OFb := Lib.hid (OFb.out.keep hb)
      have KFa := Lib.hid (KFa.out.step hb)
      have KFb := Lib.hid (KFb.out.step hb)
      have OTa := Lib.hid (OTa.out.keep hb)
      have OTb := Lib.hid (OTb.out.keep hb)
      have KTa := Lib.hid (KTa.out.step hb)
      have KTb := Lib.hid (KTb.out.step hb)
      have OX := Lib.hid (OX.out.keep hb)
      have KX := Lib.hid (KX.out.step hb)
      have B := Lib.hid (stepB B.out hb)
      clear hb
      have KP := Lib.hid k12
      have OP := Lib.hid ob12
      have PM := Lib.hid pM
      have HmP := Lib.hid hmP
      clear k12 ob12 pM hmP
      obtain ⟨cc6_00, cc6_01, cc6_02, -, -, -⟩ := KA.out.all
      have ll6_0 := KA.out.lt
      obtain ⟨cc6_10, cc6_11, cc6_12, -, -, -⟩ := KFa.out.all
      have ll6_1 := KFa.out.lt
      obtain ⟨cc6_20, cc6_21, cc6_22, -, -, -⟩ := KFb.out.all
      have ll6_2 := KFb.out.lt
      obtain ⟨cc6_30, cc6_31, cc6_32, -, -, -⟩ := KTa.out.all
      have ll6_3 := KTa.out.lt
      obtain ⟨cc6_40, cc6_41, cc6_42, -, -, -⟩ := KTb.out.all
      have ll6_4 := KTb.out.lt
      obtain ⟨cc6_50, cc6_51, cc6_52, -, -, -⟩ := KX.out.all
      have ll6_5 := KX.out.lt
      obtain ⟨cc6_60, cc6_61, cc6_62, -, -, -⟩ := KP.out.all
      have ll6_6 := KP.out.lt
      go_wp2_with (fail)
      obtain ⟨eC, heC⟩ : ∃ m, herR mP.r mP.c mP.zs = m := ⟨_, rfl⟩
      have HeC := Lib.hid heC
      clear heC
      refine (iHerm mP.r mP.c qP qcP mP.zs _ OP.out.rd nP sP).mono ?_
      rintro e w5 ⟨va, vb, rfl, oa, ob, -, hb⟩
      rw [HeC.out] at oa ob ⊢
      obtain ⟨qCa, cCa, rfl, -, nCa, sCa, lCa, zCa⟩ := oa.form2
      obtain ⟨qCb, cCb, rfl, -, nCb, sCb, -, -⟩ := ob.form2
      have OA := Lib.hid (OA.out.keep hb)
      have KA := Lib.hid (KA.out.step hb)
      have OFa := Lib.hid (OFa.out.keep hb)
      have OFb := Lib.hid (OFb.out.keep hb)
      have KFa := Lib.hid (KFa.out.step hb)
      have KFb := Lib.hid (KFb.out.step hb)
      have OTa := Lib.hid (OTa.out.keep hb)
      have OTb := Lib.hid (OTb.out.keep hb)
      have KTa := Lib.hid (KTa.out.step hb)
      have KTb := Lib.hid (KTb.out.step hb)
      have OX := Lib.hid (OX.out.keep hb)
      have KX := Lib.hid (KX.out.step hb)
      have KP := Lib.hid (KP.out.step hb)
      have OP := Lib.hid (OP.out.keep hb)
      have B := Lib.hid (stepB B.out hb)
      clear hb
      have OCa := Lib.hid (oa.le (Nat.zero_le _))
      have OCb := Lib.hid (ob.le (Nat.zero_le _))
      clear oa ob
      obtain ⟨cc7_00, cc7_01, cc7_02, -, -, -⟩ := KA.out.all
      have ll7_0 := KA.out.lt
      obtain ⟨cc7_10, cc7_11, cc7_12, -, -, -⟩ := KFa.out.all
      have ll7_1 := KFa.out.lt
      obtain ⟨cc7_20, cc7_21, cc7_22, -, -, -⟩ := KFb.out.all
      have ll7_2 := KFb.out.lt
      obtain ⟨cc7_30, cc7_31, cc7_32, -, -, -⟩ := KTa.out.all
      have ll7_3 := KTa.out.lt
      obtain ⟨cc7_40, cc7_41, cc7_42, -, -, -⟩ := KTb.out.all
      have ll7_4 := KTb.out.lt
      obtain ⟨cc7_50, cc7_51, cc7_52, -, -, -⟩ := KX.out.all
      have ll7_5 := KX.out.lt
      obtain ⟨cc7_60, cc7_61, cc7_62, -, -, -⟩ := KP.out.all
      have ll7_6 := KP.out.lt
      go_wp2_with (fail)
      obtain ⟨eB, heB⟩ : ∃ m, herR eA.r1 eA.c1 eA.zs = m := ⟨_, rfl⟩
      have HeB := Lib.hid heB
      clear heB
      refine (iHerm eA.r1 eA.c1 qFa cFa eA.zs _ ((OFa.out.old _).old _).rd nFa sFa).mono ?_
      rintro e w6 ⟨va, vb, rfl, oa, ob, -, hb⟩
      rw [HeB.out] at oa ob ⊢
      obtain ⟨qBa, cBa, rfl, -, nBa, sBa, lBa, zBa⟩ := oa.form2
      obtain ⟨qBb, cBb, rfl, -, nBb, sBb, -, -⟩ := ob.form2
      have OA := Lib.hid (((OA.out.old _).old _).keep hb)
      have KA := Lib.hid (((KA.out.old _).old _).step hb)
      have OFa := Lib.hid (((OFa.out.old _).old _).keep hb)
      have OFb := Lib.hid (((OFb.out.old _).old _).keep hb)
      have KFa := Lib.hid (((KFa.out.old _).old _).step hb)
      have KFb := Lib.hid (((KFb.out.old _).old _).step hb)
      have OTa := Lib.hid (((OTa.out.old _).old _).keep hb)
      have OTb := Lib.hid (((OTb.out.old _).old _).keep hb)
      have KTa := Lib.hid (((KTa.out.old _).old _).step hb)
      have KTb := Lib.hid (((KTb.out.old _).old _).step hb)
      have OX := Lib.hid (((OX.out.old _).old _).keep hb)
      have KX := Lib.hid (((KX.out.old _).old _).step hb)
      have KP := Lib.hid (((KP.out.old _).old _).step hb)
      have OP := Lib.hid (((OP.out.old _).old _).keep hb)
      have OCa := Lib.hid (((OCa.out.old _).old _).keep hb)
      have OCb := Lib.hid (((OCb.out.old _).old _).keep hb)
      have KCa : Hid (Blk3 w6 w5.heap.size 26 (.int .i64 (eC.r1)) (.int .i64 (eC.c1)) (.slice qCa eC.zs.length cCa)) := ((Blk3.at_ _ _ _ _ rfl).old _).step hb
      have KCb : Hid (Blk3 w6 (w5.heap.size + 1) 26 (.int .i64 (eC.r2)) (.int .i64 (eC.c2)) (.slice qCb eC.us.length cCb)) := (Blk3.at_ _ _ _ _ (by simp)).step hb
      have B := Lib.hid (stepB ((B.out.alloc B.out.size _).alloc (B.out.alloc B.out.size _).size _) hb)
      clear hb
      have OBa := Lib.hid (oa.le (Nat.zero_le _))
      have OBb := Lib.hid (ob.le (Nat.zero_le _))
      clear oa ob
      obtain ⟨cc8_00, cc8_01, cc8_02, -, -, -⟩ := KA.out.all
      have ll8_0 := KA.out.lt
      obtain ⟨cc8_10, cc8_11, cc8_12, -, -, -⟩ := KFa.out.all
      have ll8_1 := KFa.out.lt
      obtain ⟨cc8_20, cc8_21, cc8_22, -, -, -⟩ := KFb.out.all
      have ll8_2 := KFb.out.lt
      obtain ⟨cc8_30, cc8_31, cc8_32, -, -, -⟩ := KTa.out.all
      have ll8_3 := KTa.out.lt
      obtain ⟨cc8_40, cc8_41, cc8_42, -, -, -⟩ := KTb.out.all
      have ll8_4 := KTb.out.lt
      obtain ⟨cc8_50, cc8_51, cc8_52, -, -, -⟩ := KX.out.all
      have ll8_5 := KX.out.lt
      obtain ⟨cc8_60, cc8_61, cc8_62, -, -, -⟩ := KP.out.all
      have ll8_6 := KP.out.lt
      obtain ⟨cc8_70, cc8_71, cc8_72, -, -, -⟩ := KCa.out.all
      have ll8_7 := KCa.out.lt
      obtain ⟨cc8_80, cc8_81, cc8_82, -, -, -⟩ := KCb.out.all
      have ll8_8 := KCb.out.lt
      have gB := F1.out
      rw [HeB.out] at gB
      have GB0 := F2.out
      rw [HeB.out] at GB0
      have GB := Lib.hid GB0
      rw [gB]
      clear gB GB0
      rcases Bool.eq_false_or_eq_true mX.ok with hX | hX
      rotate_left
      · rw [hX]
        rcases Bool.eq_false_or_eq_true mP.ok with hP | hP
        rotate_left
        · rw [hP]
          obtain ⟨cc9_00, cc9_01, cc9_02, -, -, -⟩ := KA.out.all
          have ll9_0 := KA.out.lt
          obtain ⟨cc9_10, cc9_11, cc9_12, -, -, -⟩ := KFa.out.all
          have ll9_1 := KFa.out.lt
          obtain ⟨cc9_20, cc9_21, cc9_22, -, -, -⟩ := KFb.out.all
          have ll9_2 := KFb.out.lt
          obtain ⟨cc9_30, cc9_31, cc9_32, -, -, -⟩ := KTa.out.all
          have ll9_3 := KTa.out.lt
          obtain ⟨cc9_40, cc9_41, cc9_42, -, -, -⟩ := KTb.out.all
          have ll9_4 := KTb.out.lt
          obtain ⟨cc9_50, cc9_51, cc9_52, -, -, -⟩ := KX.out.all
          have ll9_5 := KX.out.lt
          obtain ⟨cc9_60, cc9_61, cc9_62, -, -, -⟩ := KP.out.all
          have ll9_6 := KP.out.lt
          obtain ⟨cc9_70, cc9_71, cc9_72, -, -, -⟩ := KCa.out.all
          have ll9_7 := KCa.out.lt
          obtain ⟨cc9_80, cc9_81, cc9_82, -, -, -⟩ := KCb.out.all
          have ll9_8 := KCb.out.lt
          go_wp2_with (fail)
          refine (iIsHermite eA.r1 eA.c1 qFa cFa eA.zs _ ((OFa.out.old _).old _).rd nFa sFa lFa zFa).mono ?_
          rintro e w7 ⟨rfl, hb⟩
          have OA := Lib.hid (((OA.out.old _).old _).keep hb)
          have KA := Lib.hid (((KA.out.old _).old _).step hb)
          have OFa := Lib.hid (((OFa.out.old _).old _).keep hb)
          have OFb := Lib.hid (((OFb.out.old _).old _).keep hb)
          have KFa := Lib.hid (((KFa.out.old _).old _).step hb)
          have KFb := Lib.hid (((KFb.out.old _).old _).step hb)
          have OTa := Lib.hid (((OTa.out.old _).old _).keep hb)
          have OTb := Lib.hid (((OTb.out.old _).old _).keep hb)
          have KTa := Lib.hid (((KTa.out.old _).old _).step hb)
          have KTb := Lib.hid (((KTb.out.old _).old _).step hb)
          have OX := Lib.hid (((OX.out.old _).old _).keep hb)
          have KX := Lib.hid (((KX.out.old _).old _).step hb)
          have KP := Lib.hid (((KP.out.old _).old _).step hb)
          have OP := Lib.hid (((OP.out.old _).old _).keep hb)
          have OCa := Lib.hid (((OCa.out.old _).old _).keep hb)
          have OCb := Lib.hid (((OCb.out.old _).old _).keep hb)
          have KCa := Lib.hid (((KCa.out.old _).old _).step hb)
          have KCb := Lib.hid (((KCb.out.old _).old _).step hb)
          have OBa := Lib.hid (((OBa.out.old _).old _).keep hb)
          have OBb := Lib.hid (((OBb.out.old _).old _).keep hb)
          have KBa : Hid (Blk3 w7 w6.heap.size 26 (.int .i64 (eB.r1)) (.int .i64 (eB.c1)) (.slice qBa eB.zs.length cBa)) := ((Blk3.at_ _ _ _ _ rfl).old _).step hb
          have KBb : Hid (Blk3 w7 (w6.heap.size + 1) 26 (.int .i64 (eB.r2)) (.int .i64 (eB.c2)) (.slice qBb eB.us.length cBb)) := (Blk3.at_ _ _ _ _ (by simp)).step hb
          have B := Lib.hid (stepB ((B.out.alloc B.out.size _).alloc (B.out.alloc B.out.size _).size _) hb)
          clear hb
          rw [F5.out]
          obtain ⟨cc10_00, cc10_01, cc10_02, -, -, -⟩ := KA.out.all
          have ll10_0 := KA.out.lt
          obtain ⟨cc10_10, cc10_11, cc10_12, -, -, -⟩ := KFa.out.all
          have ll10_1 := KFa.out.lt
          obtain ⟨cc10_20, cc10_21, cc10_22, -, -, -⟩ := KFb.out.all
          have ll10_2 := KFb.out.lt
          obtain ⟨cc10_30, cc10_31, cc10_32, -, -, -⟩ := KTa.out.all
          have ll10_3 := KTa.out.lt
          obtain ⟨cc10_40, cc10_41, cc10_42, -, -, -⟩ := KTb.out.all
          have ll10_4 := KTb.out.lt
          obtain ⟨cc10_50, cc10_51, cc10_52, -, -, -⟩ := KX.out.all
          have ll10_5 := KX.out.lt
          obtain ⟨cc10_60, cc10_61, cc10_62, -, -, -⟩ := KP.out.all
          have ll10_6 := KP.out.lt
          obtain ⟨cc10_70, cc10_71, cc10_72, -, -, -⟩ := KCa.out.all
          have ll10_7 := KCa.out.lt
          obtain ⟨cc10_80, cc10_81, cc10_82, -, -, -⟩ := KCb.out.all
          have ll10_8 := KCb.out.lt
          obtain ⟨cc10_90, cc10_91, cc10_92, -, -, -⟩ := KBa.out.all
          have ll10_9 := KBa.out.lt
          obtain ⟨cc10_100, cc10_101, cc10_102, -, -, -⟩ := KBb.out.all
          have ll10_10 := KBb.out.lt
          go_wp2_with (fail)
          refine (sIsHermite eA.r1 eA.c1 qFa cFa eA.zs _ OFa.out.rd nFa).mono ?_
          rintro e w8 ⟨rfl, hb⟩
          have OA := Lib.hid (OA.out.keep hb)
          have KA := Lib.hid (KA.out.step hb)
          have OFa := Lib.hid (OFa.out.keep hb)
          have OFb := Lib.hid (OFb.out.keep hb)
          have KFa := Lib.hid (KFa.out.step hb)
          have KFb := Lib.hid (KFb.out.step hb)
          have OTa := Lib.hid (OTa.out.keep hb)
          have OTb := Lib.hid (OTb.out.keep hb)
          have KTa := Lib.hid (KTa.out.step hb)
          have KTb := Lib.hid (KTb.out.step hb)
          have OX := Lib.hid (OX.out.keep hb)
          have KX := Lib.hid (KX.out.step hb)
          have KP := Lib.hid (KP.out.step hb)
          have OP := Lib.hid (OP.out.keep hb)
          have OCa := Lib.hid (OCa.out.keep hb)
          have OCb := Lib.hid (OCb.out.keep hb)
          have KCa := Lib.hid (KCa.out.step hb)
          have KCb := Lib.hid (KCb.out.step hb)
          have OBa := Lib.hid (OBa.out.keep hb)
          have OBb := Lib.hid (OBb.out.keep hb)
          have KBa := Lib.hid (KBa.out.step hb)
          have KBb := Lib.hid (KBb.out.step hb)
          have B := Lib.hid (stepB B.out hb)
          clear hb
          rw [F5.out]
          obtain ⟨cc11_00, cc11_01, cc11_02, -, -, -⟩ := KA.out.all
          have ll11_0 := KA.out.lt
          obtain ⟨cc11_10, cc11_11, cc11_12, -, -, -⟩ := KFa.out.all
          have ll11_1 := KFa.out.lt
          obtain ⟨cc11_20, cc11_21, cc11_22, -, -, -⟩ := KFb.out.all
          have ll11_2 := KFb.out.lt
          obtain ⟨cc11_30, cc11_31, cc11_32, -, -, -⟩ := KTa.out.all
          have ll11_3 := KTa.out.lt
          obtain ⟨cc11_40, cc11_41, cc11_42, -, -, -⟩ := KTb.out.all
          have ll11_4 := KTb.out.lt
          obtain ⟨cc11_50, cc11_51, cc11_52, -, -, -⟩ := KX.out.all
          have ll11_5 := KX.out.lt
          obtain ⟨cc11_60, cc11_61, cc11_62, -, -, -⟩ := KP.out.all
          have ll11_6 := KP.out.lt
          obtain ⟨cc11_70, cc11_71, cc11_72, -, -, -⟩ := KCa.out.all
          have ll11_7 := KCa.out.lt
          obtain ⟨cc11_80, cc11_81, cc11_82, -, -, -⟩ := KCb.out.all
          have ll11_8 := KCb.out.lt
          obtain ⟨cc11_90, cc11_91, cc11_92, -, -, -⟩ := KBa.out.all
          have ll11_9 := KBa.out.lt
          obtain ⟨cc11_100, cc11_101, cc11_102, -, -, -⟩ := KBb.out.all
          have ll11_10 := KBb.out.lt
          go_wp2_with (fail)
          refine (lUnim eA.r2 eA.c2 qFb cFb eA.us _ OFb.out.rd nFb UN.out).mono ?_
          rintro e w9 ⟨rfl, hb⟩
          have OA := Lib.hid (OA.out.keep hb)
          have KA := Lib.hid (KA.out.step hb)
          have OFa := Lib.hid (OFa.out.keep hb)
          have OFb := Lib.hid (OFb.out.keep hb)
          have KFa := Lib.hid (KFa.out.step hb)
          have KFb := Lib.hid (KFb.out.step hb)
          have OTa := Lib.hid (OTa.out.keep hb)
          have OTb := Lib.hid (OTb.out.keep hb)
          have KTa := Lib.hid (KTa.out.step hb)
          have KTb := Lib.hid (KTb.out.step hb)
          have OX := Lib.hid (OX.out.keep hb)
          have KX := Lib.hid (KX.out.step hb)
          have KP := Lib.hid (KP.out.step hb)
          have OP := Lib.hid (OP.out.keep hb)
          have OCa := Lib.hid (OCa.out.keep hb)
          have OCb := Lib.hid (OCb.out.keep hb)
          have KCa := Lib.hid (KCa.out.step hb)
          have KCb := Lib.hid (KCb.out.step hb)
          have OBa := Lib.hid (OBa.out.keep hb)
          have OBb := Lib.hid (OBb.out.keep hb)
          have KBa := Lib.hid (KBa.out.step hb)
          have KBb := Lib.hid (KBb.out.step hb)
          have B := Lib.hid (stepB B.out hb)
          clear hb
          obtain ⟨cc12_00, cc12_01, cc12_02, -, -, -⟩ := KA.out.all
          have ll12_0 := KA.out.lt
          obtain ⟨cc12_10, cc12_11, cc12_12, -, -, -⟩ := KFa.out.all
          have ll12_1 := KFa.out.lt
          obtain ⟨cc12_20, cc12_21, cc12_22, -, -, -⟩ := KFb.out.all
          have ll12_2 := KFb.out.lt
          obtain ⟨cc12_30, cc12_31, cc12_32, -, -, -⟩ := KTa.out.all
          have ll12_3 := KTa.out.lt
          obtain ⟨cc12_40, cc12_41, cc12_42, -, -, -⟩ := KTb.out.all
          have ll12_4 := KTb.out.lt
          obtain ⟨cc12_50, cc12_51, cc12_52, -, -, -⟩ := KX.out.all
          have ll12_5 := KX.out.lt
          obtain ⟨cc12_60, cc12_61, cc12_62, -, -, -⟩ := KP.out.all
          have ll12_6 := KP.out.lt
          obtain ⟨cc12_70, cc12_71, cc12_72, -, -, -⟩ := KCa.out.all
          have ll12_7 := KCa.out.lt
          obtain ⟨cc12_80, cc12_81, cc12_82, -, -, -⟩ := KCb.out.all
          have ll12_8 := KCb.out.lt
          obtain ⟨cc12_90, cc12_91, cc12_92, -, -, -⟩ := KBa.out.all
          have ll12_9 := KBa.out.lt
          obtain ⟨cc12_100, cc12_101, cc12_102, -, -, -⟩ := KBb.out.all
          have ll12_10 := KBb.out.lt
          go_wp2_with (fail)
          refine (sameQ12 eB.r1 eB.c1 eA.r1 eA.c1 eB.zs eA.zs qBa qFa cBa cFa _ GB.out.1 GB.out.2.1 GB.out.2.2 OBa.out.rd OFa.out.rd nFa).mono ?_
          rintro e w10 ⟨rfl, hb⟩
          have OA := Lib.hid (OA.out.keep hb)
          have KA := Lib.hid (KA.out.step hb)
          have OFa := Lib.hid (OFa.out.keep hb)
          have OFb := Lib.hid (OFb.out.keep hb)
          have KFa := Lib.hid (KFa.out.step hb)
          have KFb := Lib.hid (KFb.out.step hb)
          have OTa := Lib.hid (OTa.out.keep hb)
          have OTb := Lib.hid (OTb.out.keep hb)
          have KTa := Lib.hid (KTa.out.step hb)
          have KTb := Lib.hid (KTb.out.step hb)
          have OX := Lib.hid (OX.out.keep hb)
          have KX := Lib.hid (KX.out.step hb)
          have KP := Lib.hid (KP.out.step hb)
          have OP := Lib.hid (OP.out.keep hb)
          have OCa := Lib.hid (OCa.out.keep hb)
          have OCb := Lib.hid (OCb.out.keep hb)
          have KCa := Lib.hid (KCa.out.step hb)
          have KCb := Lib.hid (KCb.out.step hb)
          have OBa := Lib.hid (OBa.out.keep hb)
          have OBb := Lib.hid (OBb.out.keep hb)
          have KBa := Lib.hid (KBa.out.step hb)
          have KBb := Lib.hid (KBb.out.step hb)
          have B := Lib.hid (stepB B.out hb)
          clear hb
          obtain ⟨cc13_00, cc13_01, cc13_02, -, -, -⟩ := KA.out.all
          have ll13_0 := KA.out.lt
          obtain ⟨cc13_10, cc13_11, cc13_12, -, -, -⟩ := KFa.out.all
          have ll13_1 := KFa.out.lt
          obtain ⟨cc13_20, cc13_21, cc13_22, -, -, -⟩ := KFb.out.all
          have ll13_2 := KFb.out.lt
          obtain ⟨cc13_30, cc13_31, cc13_32, -, -, -⟩ := KTa.out.all
          have ll13_3 := KTa.out.lt
          obtain ⟨cc13_40, cc13_41, cc13_42, -, -, -⟩ := KTb.out.all
          have ll13_4 := KTb.out.lt
          obtain ⟨cc13_50, cc13_51, cc13_52, -, -, -⟩ := KX.out.all
          have ll13_5 := KX.out.lt
          obtain ⟨cc13_60, cc13_61, cc13_62, -, -, -⟩ := KP.out.all
          have ll13_6 := KP.out.lt
          obtain ⟨cc13_70, cc13_71, cc13_72, -, -, -⟩ := KCa.out.all
          have ll13_7 := KCa.out.lt
          obtain ⟨cc13_80, cc13_81, cc13_82, -, -, -⟩ := KCb.out.all
          have ll13_8 := KCb.out.lt
          obtain ⟨cc13_90, cc13_91, cc13_92, -, -, -⟩ := KBa.out.all
          have ll13_9 := KBa.out.lt
          obtain ⟨cc13_100, cc13_101, cc13_102, -, -, -⟩ := KBb.out.all
          have ll13_10 := KBb.out.lt
          obtain ⟨cc14_00, cc14_01, cc14_02, -, -, -⟩ := KA.out.all
          have ll14_0 := KA.out.lt
          obtain ⟨cc14_10, cc14_11, cc14_12, -, -, -⟩ := KFa.out.all
          have ll14_1 := KFa.out.lt
          obtain ⟨cc14_20, cc14_21, cc14_22, -, -, -⟩ := KFb.out.all
          have ll14_2 := KFb.out.lt
          obtain ⟨cc14_30, cc14_31, cc14_32, -, -, -⟩ := KTa.out.all
          have ll14_3 := KTa.out.lt
          obtain ⟨cc14_40, cc14_41, cc14_42, -, -, -⟩ := KTb.out.all
          have ll14_4 := KTb.out.lt
          obtain ⟨cc14_50, cc14_51, cc14_52, -, -, -⟩ := KX.out.all
          have ll14_5 := KX.out.lt
          obtain ⟨cc14_60, cc14_61, cc14_62, -, -, -⟩ := KP.out.all
          have ll14_6 := KP.out.lt
          obtain ⟨cc14_70, cc14_71, cc14_72, -, -, -⟩ := KCa.out.all
          have ll14_7 := KCa.out.lt
          obtain ⟨cc14_80, cc14_81, cc14_82, -, -, -⟩ := KCb.out.all
          have ll14_8 := KCb.out.lt
          obtain ⟨cc14_90, cc14_91, cc14_92, -, -, -⟩ := KBa.out.all
          have ll14_9 := KBa.out.lt
          obtain ⟨cc14_100, cc14_101, cc14_102, -, -, -⟩ := KBb.out.all
          have ll14_10 := KBb.out.lt
          go_wp2_with (fail)
          go_ret
          exact ⟨rfl, B.out⟩
        rw [hP]
        rcases Bool.eq_false_or_eq_true eC.ok with hC | hC
        rotate_left
        · rw [hC]
          obtain ⟨cc9_00, cc9_01, cc9_02, -, -, -⟩ := KA.out.all
          have ll9_0 := KA.out.lt
          obtain ⟨cc9_10, cc9_11, cc9_12, -, -, -⟩ := KFa.out.all
          have ll9_1 := KFa.out.lt
          obtain ⟨cc9_20, cc9_21, cc9_22, -, -, -⟩ := KFb.out.all
          have ll9_2 := KFb.out.lt
          obtain ⟨cc9_30, cc9_31, cc9_32, -, -, -⟩ := KTa.out.all
          have ll9_3 := KTa.out.lt
          obtain ⟨cc9_40, cc9_41, cc9_42, -, -, -⟩ := KTb.out.all
          have ll9_4 := KTb.out.lt
          obtain ⟨cc9_50, cc9_51, cc9_52, -, -, -⟩ := KX.out.all
          have ll9_5 := KX.out.lt
          obtain ⟨cc9_60, cc9_61, cc9_62, -, -, -⟩ := KP.out.all
          have ll9_6 := KP.out.lt
          obtain ⟨cc9_70, cc9_71, cc9_72, -, -, -⟩ := KCa.out.all
          have ll9_7 := KCa.out.lt
          obtain ⟨cc9_80, cc9_81, cc9_82, -, -, -⟩ := KCb.out.all
          have ll9_8 := KCb.out.lt
          go_wp2_with (fail)
          refine (iIsHermite eA.r1 eA.c1 qFa cFa eA.zs _ ((OFa.out.old _).old _).rd nFa sFa lFa zFa).mono ?_
          rintro e w7 ⟨rfl, hb⟩
          have OA := Lib.hid (((OA.out.old _).old _).keep hb)
          have KA := Lib.hid (((KA.out.old _).old _).step hb)
          have OFa := Lib.hid (((OFa.out.old _).old _).keep hb)
          have OFb := Lib.hid (((OFb.out.old _).old _).keep hb)
          have KFa := Lib.hid (((KFa.out.old _).old _).step hb)
          have KFb := Lib.hid (((KFb.out.old _).old _).step hb)
          have OTa := Lib.hid (((OTa.out.old _).old _).keep hb)
          have OTb := Lib.hid (((OTb.out.old _).old _).keep hb)
          have KTa := Lib.hid (((KTa.out.old _).old _).step hb)
          have KTb := Lib.hid (((KTb.out.old _).old _).step hb)
          have OX := Lib.hid (((OX.out.old _).old _).keep hb)
          have KX := Lib.hid (((KX.out.old _).old _).step hb)
          have KP := Lib.hid (((KP.out.old _).old _).step hb)
          have OP := Lib.hid (((OP.out.old _).old _).keep hb)
          have OCa := Lib.hid (((OCa.out.old _).old _).keep hb)
          have OCb := Lib.hid (((OCb.out.old _).old _).keep hb)
          have KCa := Lib.hid (((KCa.out.old _).old _).step hb)
          have KCb := Lib.hid (((KCb.out.old _).old _).step hb)
          have OBa := Lib.hid (((OBa.out.old _).old _).keep hb)
          have OBb := Lib.hid (((OBb.out.old _).old _).keep hb)
          have KBa : Hid (Blk3 w7 w6.heap.size 26 (.int .i64 (eB.r1)) (.int .i64 (eB.c1)) (.slice qBa eB.zs.length cBa)) := ((Blk3.at_ _ _ _ _ rfl).old _).step hb
          have KBb : Hid (Blk3 w7 (w6.heap.size + 1) 26 (.int .i64 (eB.r2)) (.int .i64 (eB.c2)) (.slice qBb eB.us.length cBb)) := (Blk3.at_ _ _ _ _ (by simp)).step hb
          have B := Lib.hid (stepB ((B.out.alloc B.out.size _).alloc (B.out.alloc B.out.size _).size _) hb)
          clear hb
          rw [F5.out]
          obtain ⟨cc10_00, cc10_01, cc10_02, -, -, -⟩ := KA.out.all
          have ll10_0 := KA.out.lt
          obtain ⟨cc10_10, cc10_11, cc10_12, -, -, -⟩ := KFa.out.all
          have ll10_1 := KFa.out.lt
          obtain ⟨cc10_20, cc10_21, cc10_22, -, -, -⟩ := KFb.out.all
          have ll10_2 := KFb.out.lt
          obtain ⟨cc10_30, cc10_31, cc10_32, -, -, -⟩ := KTa.out.all
          have ll10_3 := KTa.out.lt
          obtain ⟨cc10_40, cc10_41, cc10_42, -, -, -⟩ := KTb.out.all
          have ll10_4 := KTb.out.lt
          obtain ⟨cc10_50, cc10_51, cc10_52, -, -, -⟩ := KX.out.all
          have ll10_5 := KX.out.lt
          obtain ⟨cc10_60, cc10_61, cc10_62, -, -, -⟩ := KP.out.all
          have ll10_6 := KP.out.lt
          obtain ⟨cc10_70, cc10_71, cc10_72, -, -, -⟩ := KCa.out.all
          have ll10_7 := KCa.out.lt
          obtain ⟨cc10_80, cc10_81, cc10_82, -, -, -⟩ := KCb.out.all
          have ll10_8 := KCb.out.lt
          obtain ⟨cc10_90, cc10_91, cc10_92, -, -, -⟩ := KBa.out.all
          have ll10_9 := KBa.out.lt
          obtain ⟨cc10_100, cc10_101, cc10_102, -, -, -⟩ := KBb.out.all
          have ll10_10 := KBb.out.lt
          go_wp2_with (fail)
          refine (sIsHermite eA.r1 eA.c1 qFa cFa eA.zs _ OFa.out.rd nFa).mono ?_
          rintro e w8 ⟨rfl, hb⟩
          have OA := Lib.hid (OA.out.keep hb)
          have KA := Lib.hid (KA.out.step hb)
          have OFa := Lib.hid (OFa.out.keep hb)
          have OFb := Lib.hid (OFb.out.keep hb)
          have KFa := Lib.hid (KFa.out.step hb)
          have KFb := Lib.hid (KFb.out.step hb)
          have OTa := Lib.hid (OTa.out.keep hb)
          have OTb := Lib.hid (OTb.out.keep hb)
          have KTa := Lib.hid (KTa.out.step hb)
          have KTb := Lib.hid (KTb.out.step hb)
          have OX := Lib.hid (OX.out.keep hb)
          have KX := Lib.hid (KX.out.step hb)
          have KP := Lib.hid (KP.out.step hb)
          have OP := Lib.hid (OP.out.keep hb)
          have OCa := Lib.hid (OCa.out.keep hb)
          have OCb := Lib.hid (OCb.out.keep hb)
          have KCa := Lib.hid (KCa.out.step hb)
          have KCb := Lib.hid (KCb.out.step hb)
          have OBa := Lib.hid (OBa.out.keep hb)
          have OBb := Lib.hid (OBb.out.keep hb)
          have KBa := Lib.hid (KBa.out.step hb)
          have KBb := Lib.hid (KBb.out.step hb)
          have B := Lib.hid (stepB B.out hb)
          clear hb
          rw [F5.out]
          obtain ⟨cc11_00, cc11_01, cc11_02, -, -, -⟩ := KA.out.all
          have ll11_0 := KA.out.lt
          obtain ⟨cc11_10, cc11_11, cc11_12, -, -, -⟩ := KFa.out.all
          have ll11_1 := KFa.out.lt
          obtain ⟨cc11_20, cc11_21, cc11_22, -, -, -⟩ := KFb.out.all
          have ll11_2 := KFb.out.lt
          obtain ⟨cc11_30, cc11_31, cc11_32, -, -, -⟩ := KTa.out.all
          have ll11_3 := KTa.out.lt
          obtain ⟨cc11_40, cc11_41, cc11_42, -, -, -⟩ := KTb.out.all
          have ll11_4 := KTb.out.lt
          obtain ⟨cc11_50, cc11_51, cc11_52, -, -, -⟩ := KX.out.all
          have ll11_5 := KX.out.lt
          obtain ⟨cc11_60, cc11_61, cc11_62, -, -, -⟩ := KP.out.all
          have ll11_6 := KP.out.lt
          obtain ⟨cc11_70, cc11_71, cc11_72, -, -, -⟩ := KCa.out.all
          have ll11_7 := KCa.out.lt
          obtain ⟨cc11_80, cc11_81, cc11_82, -, -, -⟩ := KCb.out.all
          have ll11_8 := KCb.out.lt
          obtain ⟨cc11_90, cc11_91, cc11_92, -, -, -⟩ := KBa.out.all
          have ll11_9 := KBa.out.lt
          obtain ⟨cc11_100, cc11_101, cc11_102, -, -, -⟩ := KBb.out.all
          have ll11_10 := KBb.out.lt
          go_wp2_with (fail)
          refine (lUnim eA.r2 eA.c2 qFb cFb eA.us _ OFb.out.rd nFb UN.out).mono ?_
          rintro e w9 ⟨rfl, hb⟩
          have OA := Lib.hid (OA.out.keep hb)
          have KA := Lib.hid (KA.out.step hb)
          have OFa := Lib.hid (OFa.out.keep hb)
          have OFb := Lib.hid (OFb.out.keep hb)
          have KFa := Lib.hid (KFa.out.step hb)
          have KFb := Lib.hid (KFb.out.step hb)
          have OTa := Lib.hid (OTa.out.keep hb)
          have OTb := Lib.hid (OTb.out.keep hb)
          have KTa := Lib.hid (KTa.out.step hb)
          have KTb := Lib.hid (KTb.out.step hb)
          have OX := Lib.hid (OX.out.keep hb)
          have KX := Lib.hid (KX.out.step hb)
          have KP := Lib.hid (KP.out.step hb)
          have OP := Lib.hid (OP.out.keep hb)
          have OCa := Lib.hid (OCa.out.keep hb)
          have OCb := Lib.hid (OCb.out.keep hb)
          have KCa := Lib.hid (KCa.out.step hb)
          have KCb := Lib.hid (KCb.out.step hb)
          have OBa := Lib.hid (OBa.out.keep hb)
          have OBb := Lib.hid (OBb.out.keep hb)
          have KBa := Lib.hid (KBa.out.step hb)
          have KBb := Lib.hid (KBb.out.step hb)
          have B := Lib.hid (stepB B.out hb)
          clear hb
          obtain ⟨cc12_00, cc12_01, cc12_02, -, -, -⟩ := KA.out.all
          have ll12_0 := KA.out.lt
          obtain ⟨cc12_10, cc12_11, cc12_12, -, -, -⟩ := KFa.out.all
          have ll12_1 := KFa.out.lt
          obtain ⟨cc12_20, cc12_21, cc12_22, -, -, -⟩ := KFb.out.all
          have ll12_2 := KFb.out.lt
          obtain ⟨cc12_30, cc12_31, cc12_32, -, -, -⟩ := KTa.out.all
          have ll12_3 := KTa.out.lt
          obtain ⟨cc12_40, cc12_41, cc12_42, -, -, -⟩ := KTb.out.all
          have ll12_4 := KTb.out.lt
          obtain ⟨cc12_50, cc12_51, cc12_52, -, -, -⟩ := KX.out.all
          have ll12_5 := KX.out.lt
          obtain ⟨cc12_60, cc12_61, cc12_62, -, -, -⟩ := KP.out.all
          have ll12_6 := KP.out.lt
          obtain ⟨cc12_70, cc12_71, cc12_72, -, -, -⟩ := KCa.out.all
          have ll12_7 := KCa.out.lt
          obtain ⟨cc12_80, cc12_81, cc12_82, -, -, -⟩ := KCb.out.all
          have ll12_8 := KCb.out.lt
          obtain ⟨cc12_90, cc12_91, cc12_92, -, -, -⟩ := KBa.out.all
          have ll12_9 := KBa.out.lt
          obtain ⟨cc12_100, cc12_101, cc12_102, -, -, -⟩ := KBb.out.all
          have ll12_10 := KBb.out.lt
          go_wp2_with (fail)
          refine (sameQ12 eB.r1 eB.c1 eA.r1 eA.c1 eB.zs eA.zs qBa qFa cBa cFa _ GB.out.1 GB.out.2.1 GB.out.2.2 OBa.out.rd OFa.out.rd nFa).mono ?_
          rintro e w10 ⟨rfl, hb⟩
          have OA := Lib.hid (OA.out.keep hb)
          have KA := Lib.hid (KA.out.step hb)
          have OFa := Lib.hid (OFa.out.keep hb)
          have OFb := Lib.hid (OFb.out.keep hb)
          have KFa := Lib.hid (KFa.out.step hb)
          have KFb := Lib.hid (KFb.out.step hb)
          have OTa := Lib.hid (OTa.out.keep hb)
          have OTb := Lib.hid (OTb.out.keep hb)
          have KTa := Lib.hid (KTa.out.step hb)
          have KTb := Lib.hid (KTb.out.step hb)
          have OX := Lib.hid (OX.out.keep hb)
          have KX := Lib.hid (KX.out.step hb)
          have KP := Lib.hid (KP.out.step hb)
          have OP := Lib.hid (OP.out.keep hb)
          have OCa := Lib.hid (OCa.out.keep hb)
          have OCb := Lib.hid (OCb.out.keep hb)
          have KCa := Lib.hid (KCa.out.step hb)
          have KCb := Lib.hid (KCb.out.step hb)
          have OBa := Lib.hid (OBa.out.keep hb)
          have OBb := Lib.hid (OBb.out.keep hb)
          have KBa := Lib.hid (KBa.out.step hb)
          have KBb := Lib.hid (KBb.out.step hb)
          have B := Lib.hid (stepB B.out hb)
          clear hb
          obtain ⟨cc13_00, cc13_01, cc13_02, -, -, -⟩ := KA.out.all
          have ll13_0 := KA.out.lt
          obtain ⟨cc13_10, cc13_11, cc13_12, -, -, -⟩ := KFa.out.all
          have ll13_1 := KFa.out.lt
          obtain ⟨cc13_20, cc13_21, cc13_22, -, -, -⟩ := KFb.out.all
          have ll13_2 := KFb.out.lt
          obtain ⟨cc13_30, cc13_31, cc13_32, -, -, -⟩ := KTa.out.all
          have ll13_3 := KTa.out.lt
          obtain ⟨cc13_40, cc13_41, cc13_42, -, -, -⟩ := KTb.out.all
          have ll13_4 := KTb.out.lt
          obtain ⟨cc13_50, cc13_51, cc13_52, -, -, -⟩ := KX.out.all
          have ll13_5 := KX.out.lt
          obtain ⟨cc13_60, cc13_61, cc13_62, -, -, -⟩ := KP.out.all
          have ll13_6 := KP.out.lt
          obtain ⟨cc13_70, cc13_71, cc13_72, -, -, -⟩ := KCa.out.all
          have ll13_7 := KCa.out.lt
          obtain ⟨cc13_80, cc13_81, cc13_82, -, -, -⟩ := KCb.out.all
          have ll13_8 := KCb.out.lt
          obtain ⟨cc13_90, cc13_91, cc13_92, -, -, -⟩ := KBa.out.all
          have ll13_9 := KBa.out.lt
          obtain ⟨cc13_100, cc13_101, cc13_102, -, -, -⟩ := KBb.out.all
          have ll13_10 := KBb.out.lt
          obtain ⟨cc14_00, cc14_01, cc14_02, -, -, -⟩ := KA.out.all
          have ll14_0 := KA.out.lt
          obtain ⟨cc14_10, cc14_11, cc14_12, -, -, -⟩ := KFa.out.all
          have ll14_1 := KFa.out.lt
          obtain ⟨cc14_20, cc14_21, cc14_22, -, -, -⟩ := KFb.out.all
          have ll14_2 := KFb.out.lt
          obtain ⟨cc14_30, cc14_31, cc14_32, -, -, -⟩ := KTa.out.all
          have ll14_3 := KTa.out.lt
          obtain ⟨cc14_40, cc14_41, cc14_42, -, -, -⟩ := KTb.out.all
          have ll14_4 := KTb.out.lt
          obtain ⟨cc14_50, cc14_51, cc14_52, -, -, -⟩ := KX.out.all
          have ll14_5 := KX.out.lt
          obtain ⟨cc14_60, cc14_61, cc14_62, -, -, -⟩ := KP.out.all
          have ll14_6 := KP.out.lt
          obtain ⟨cc14_70, cc14_71, cc14_72, -, -, -⟩ := KCa.out.all
          have ll14_7 := KCa.out.lt
          obtain ⟨cc14_80, cc14_81, cc14_82, -, -, -⟩ := KCb.out.all
          have ll14_8 := KCb.out.lt
          obtain ⟨cc14_90, cc14_91, cc14_92, -, -, -⟩ := KBa.out.all
          have ll14_9 := KBa.out.lt
          obtain ⟨cc14_100, cc14_101, cc14_102, -, -, -⟩ := KBb.out.all
          have ll14_10 := KBb.out.lt
          go_wp2_with (fail)
          go_ret
          exact ⟨rfl, B.out⟩
        rw [hC]
        obtain ⟨x1, x2, x3⟩ := her_mix HeA.out hf PM.out HmP.out hP (by rw [HeC.out]; exact hC)
        rw [HeC.out] at x1 x2 x3
        have EC := Lib.hid (And.intro x1 (And.intro x2 x3))
        clear x1 x2 x3
        obtain ⟨cc9_00, cc9_01, cc9_02, -, -, -⟩ := KA.out.all
        have ll9_0 := KA.out.lt
        obtain ⟨cc9_10, cc9_11, cc9_12, -, -, -⟩ := KFa.out.all
        have ll9_1 := KFa.out.lt
        obtain ⟨cc9_20, cc9_21, cc9_22, -, -, -⟩ := KFb.out.all
        have ll9_2 := KFb.out.lt
        obtain ⟨cc9_30, cc9_31, cc9_32, -, -, -⟩ := KTa.out.all
        have ll9_3 := KTa.out.lt
        obtain ⟨cc9_40, cc9_41, cc9_42, -, -, -⟩ := KTb.out.all
        have ll9_4 := KTb.out.lt
        obtain ⟨cc9_50, cc9_51, cc9_52, -, -, -⟩ := KX.out.all
        have ll9_5 := KX.out.lt
        obtain ⟨cc9_60, cc9_61, cc9_62, -, -, -⟩ := KP.out.all
        have ll9_6 := KP.out.lt
        obtain ⟨cc9_70, cc9_71, cc9_72, -, -, -⟩ := KCa.out.all
        have ll9_7 := KCa.out.lt
        obtain ⟨cc9_80, cc9_81, cc9_82, -, -, -⟩ := KCb.out.all
        have ll9_8 := KCb.out.lt
        go_wp2_with (fail)
        refine (iIsHermite eA.r1 eA.c1 qFa cFa eA.zs _ ((OFa.out.old _).old _).rd nFa sFa lFa zFa).mono ?_
        rintro e w7 ⟨rfl, hb⟩
        have OA := Lib.hid (((OA.out.old _).old _).keep hb)
        have KA := Lib.hid (((KA.out.old _).old _).step hb)
        have OFa := Lib.hid (((OFa.out.old _).old _).keep hb)
        have OFb := Lib.hid (((OFb.out.old _).old _).keep hb)
        have KFa := Lib.hid (((KFa.out.old _).old _).step hb)
        have KFb := Lib.hid (((KFb.out.old _).old _).step hb)
        have OTa := Lib.hid (((OTa.out.old _).old _).keep hb)
        have OTb := Lib.hid (((OTb.out.old _).old _).keep hb)
        have KTa := Lib.hid (((KTa.out.old _).old _).step hb)
        have KTb := Lib.hid (((KTb.out.old _).old _).step hb)
        have OX := Lib.hid (((OX.out.old _).old _).keep hb)
        have KX := Lib.hid (((KX.out.old _).old _).step hb)
        have KP := Lib.hid (((KP.out.old _).old _).step hb)
        have OP := Lib.hid (((OP.out.old _).old _).keep hb)
        have OCa := Lib.hid (((OCa.out.old _).old _).keep hb)
        have OCb := Lib.hid (((OCb.out.old _).old _).keep hb)
        have KCa := Lib.hid (((KCa.out.old _).old _).step hb)
        have KCb := Lib.hid (((KCb.out.old _).old _).step hb)
        have OBa := Lib.hid (((OBa.out.old _).old _).keep hb)
        have OBb := Lib.hid (((OBb.out.old _).old _).keep hb)
        have KBa : Hid (Blk3 w7 w6.heap.size 26 (.int .i64 (eB.r1)) (.int .i64 (eB.c1)) (.slice qBa eB.zs.length cBa)) := ((Blk3.at_ _ _ _ _ rfl).old _).step hb
        have KBb : Hid (Blk3 w7 (w6.heap.size + 1) 26 (.int .i64 (eB.r2)) (.int .i64 (eB.c2)) (.slice qBb eB.us.length cBb)) := (Blk3.at_ _ _ _ _ (by simp)).step hb
        have B := Lib.hid (stepB ((B.out.alloc B.out.size _).alloc (B.out.alloc B.out.size _).size _) hb)
        clear hb
        rw [F5.out]
        obtain ⟨cc10_00, cc10_01, cc10_02, -, -, -⟩ := KA.out.all
        have ll10_0 := KA.out.lt
        obtain ⟨cc10_10, cc10_11, cc10_12, -, -, -⟩ := KFa.out.all
        have ll10_1 := KFa.out.lt
        obtain ⟨cc10_20, cc10_21, cc10_22, -, -, -⟩ := KFb.out.all
        have ll10_2 := KFb.out.lt
        obtain ⟨cc10_30, cc10_31, cc10_32, -, -, -⟩ := KTa.out.all
        have ll10_3 := KTa.out.lt
        obtain ⟨cc10_40, cc10_41, cc10_42, -, -, -⟩ := KTb.out.all
        have ll10_4 := KTb.out.lt
        obtain ⟨cc10_50, cc10_51, cc10_52, -, -, -⟩ := KX.out.all
        have ll10_5 := KX.out.lt
        obtain ⟨cc10_60, cc10_61, cc10_62, -, -, -⟩ := KP.out.all
        have ll10_6 := KP.out.lt
        obtain ⟨cc10_70, cc10_71, cc10_72, -, -, -⟩ := KCa.out.all
        have ll10_7 := KCa.out.lt
        obtain ⟨cc10_80, cc10_81, cc10_82, -, -, -⟩ := KCb.out.all
        have ll10_8 := KCb.out.lt
        obtain ⟨cc10_90, cc10_91, cc10_92, -, -, -⟩ := KBa.out.all
        have ll10_9 := KBa.out.lt
        obtain ⟨cc10_100, cc10_101, cc10_102, -, -, -⟩ := KBb.out.all
        have ll10_10 := KBb.out.lt
        go_wp2_with (fail)
        refine (sIsHermite eA.r1 eA.c1 qFa cFa eA.zs _ OFa.out.rd nFa).mono ?_
        rintro e w8 ⟨rfl, hb⟩
        have OA := Lib.hid (OA.out.keep hb)
        have KA := Lib.hid (KA.out.step hb)
        have OFa := Lib.hid (OFa.out.keep hb)
        have OFb := Lib.hid (OFb.out.keep hb)
        have KFa := Lib.hid (KFa.out.step hb)
        have KFb := Lib.hid (KFb.out.step hb)
        have OTa := Lib.hid (OTa.out.keep hb)
        have OTb := Lib.hid (OTb.out.keep hb)
        have KTa := Lib.hid (KTa.out.step hb)
        have KTb := Lib.hid (KTb.out.step hb)
        have OX := Lib.hid (OX.out.keep hb)
        have KX := Lib.hid (KX.out.step hb)
        have KP := Lib.hid (KP.out.step hb)
        have OP := Lib.hid (OP.out.keep hb)
        have OCa := Lib.hid (OCa.out.keep hb)
        have OCb := Lib.hid (OCb.out.keep hb)
        have KCa := Lib.hid (KCa.out.step hb)
        have KCb := Lib.hid (KCb.out.step hb)
        have OBa := Lib.hid (OBa.out.keep hb)
        have OBb := Lib.hid (OBb.out.keep hb)
        have KBa := Lib.hid (KBa.out.step hb)
        have KBb := Lib.hid (KBb.out.step hb)
        have B := Lib.hid (stepB B.out hb)
        clear hb
        rw [F5.out]
        obtain ⟨cc11_00, cc11_01, cc11_02, -, -, -⟩ := KA.out.all
        have ll11_0 := KA.out.lt
        obtain ⟨cc11_10, cc11_11, cc11_12, -, -, -⟩ := KFa.out.all
        have ll11_1 := KFa.out.lt
        obtain ⟨cc11_20, cc11_21, cc11_22, -, -, -⟩ := KFb.out.all
        have ll11_2 := KFb.out.lt
        obtain ⟨cc11_30, cc11_31, cc11_32, -, -, -⟩ := KTa.out.all
        have ll11_3 := KTa.out.lt
        obtain ⟨cc11_40, cc11_41, cc11_42, -, -, -⟩ := KTb.out.all
        have ll11_4 := KTb.out.lt
        obtain ⟨cc11_50, cc11_51, cc11_52, -, -, -⟩ := KX.out.all
        have ll11_5 := KX.out.lt
        obtain ⟨cc11_60, cc11_61, cc11_62, -, -, -⟩ := KP.out.all
        have ll11_6 := KP.out.lt
        obtain ⟨cc11_70, cc11_71, cc11_72, -, -, -⟩ := KCa.out.all
        have ll11_7 := KCa.out.lt
        obtain ⟨cc11_80, cc11_81, cc11_82, -, -, -⟩ := KCb.out.all
        have ll11_8 := KCb.out.lt
        obtain ⟨cc11_90, cc11_91, cc11_92, -, -, -⟩ := KBa.out.all
        have ll11_9 := KBa.out.lt
        obtain ⟨cc11_100, cc11_101, cc11_102, -, -, -⟩ := KBb.out.all
        have ll11_10 := KBb.out.lt
        go_wp2_with (fail)
        refine (lUnim eA.r2 eA.c2 qFb cFb eA.us _ OFb.out.rd nFb UN.out).mono ?_
        rintro e w9 ⟨rfl, hb⟩
        have OA := Lib.hid (OA.out.keep hb)
        have KA := Lib.hid (KA.out.step hb)
        have OFa := Lib.hid (OFa.out.keep hb)
        have OFb := Lib.hid (OFb.out.keep hb)
        have KFa := Lib.hid (KFa.out.step hb)
        have KFb := Lib.hid (KFb.out.step hb)
        have OTa := Lib.hid (OTa.out.keep hb)
        have OTb := Lib.hid (OTb.out.keep hb)
        have KTa := Lib.hid (KTa.out.step hb)
        have KTb := Lib.hid (KTb.out.step hb)
        have OX := Lib.hid (OX.out.keep hb)
        have KX := Lib.hid (KX.out.step hb)
        have KP := Lib.hid (KP.out.step hb)
        have OP := Lib.hid (OP.out.keep hb)
        have OCa := Lib.hid (OCa.out.keep hb)
        have OCb := Lib.hid (OCb.out.keep hb)
        have KCa := Lib.hid (KCa.out.step hb)
        have KCb := Lib.hid (KCb.out.step hb)
        have OBa := Lib.hid (OBa.out.keep hb)
        have OBb := Lib.hid (OBb.out.keep hb)
        have KBa := Lib.hid (KBa.out.step hb)
        have KBb := Lib.hid (KBb.out.step hb)
        have B := Lib.hid (stepB B.out hb)
        clear hb
        obtain ⟨cc12_00, cc12_01, cc12_02, -, -, -⟩ := KA.out.all
        have ll12_0 := KA.out.lt
        obtain ⟨cc12_10, cc12_11, cc12_12, -, -, -⟩ := KFa.out.all
        have ll12_1 := KFa.out.lt
        obtain ⟨cc12_20, cc12_21, cc12_22, -, -, -⟩ := KFb.out.all
        have ll12_2 := KFb.out.lt
        obtain ⟨cc12_30, cc12_31, cc12_32, -, -, -⟩ := KTa.out.all
        have ll12_3 := KTa.out.lt
        obtain ⟨cc12_40, cc12_41, cc12_42, -, -, -⟩ := KTb.out.all
        have ll12_4 := KTb.out.lt
        obtain ⟨cc12_50, cc12_51, cc12_52, -, -, -⟩ := KX.out.all
        have ll12_5 := KX.out.lt
        obtain ⟨cc12_60, cc12_61, cc12_62, -, -, -⟩ := KP.out.all
        have ll12_6 := KP.out.lt
        obtain ⟨cc12_70, cc12_71, cc12_72, -, -, -⟩ := KCa.out.all
        have ll12_7 := KCa.out.lt
        obtain ⟨cc12_80, cc12_81, cc12_82, -, -, -⟩ := KCb.out.all
        have ll12_8 := KCb.out.lt
        obtain ⟨cc12_90, cc12_91, cc12_92, -, -, -⟩ := KBa.out.all
        have ll12_9 := KBa.out.lt
        obtain ⟨cc12_100, cc12_101, cc12_102, -, -, -⟩ := KBb.out.all
        have ll12_10 := KBb.out.lt
        go_wp2_with (fail)
        refine (sameQ12 eC.r1 eC.c1 eA.r1 eA.c1 eC.zs eA.zs qCa qFa cCa cFa _ EC.out.1 EC.out.2.1 EC.out.2.2 OCa.out.rd OFa.out.rd nFa).mono ?_
        rintro e w10 ⟨rfl, hb⟩
        have OA := Lib.hid (OA.out.keep hb)
        have KA := Lib.hid (KA.out.step hb)
        have OFa := Lib.hid (OFa.out.keep hb)
        have OFb := Lib.hid (OFb.out.keep hb)
        have KFa := Lib.hid (KFa.out.step hb)
        have KFb := Lib.hid (KFb.out.step hb)
        have OTa := Lib.hid (OTa.out.keep hb)
        have OTb := Lib.hid (OTb.out.keep hb)
        have KTa := Lib.hid (KTa.out.step hb)
        have KTb := Lib.hid (KTb.out.step hb)
        have OX := Lib.hid (OX.out.keep hb)
        have KX := Lib.hid (KX.out.step hb)
        have KP := Lib.hid (KP.out.step hb)
        have OP := Lib.hid (OP.out.keep hb)
        have OCa := Lib.hid (OCa.out.keep hb)
        have OCb := Lib.hid (OCb.out.keep hb)
        have KCa := Lib.hid (KCa.out.step hb)
        have KCb := Lib.hid (KCb.out.step hb)
        have OBa := Lib.hid (OBa.out.keep hb)
        have OBb := Lib.hid (OBb.out.keep hb)
        have KBa := Lib.hid (KBa.out.step hb)
        have KBb := Lib.hid (KBb.out.step hb)
        have B := Lib.hid (stepB B.out hb)
        clear hb
        obtain ⟨cc13_00, cc13_01, cc13_02, -, -, -⟩ := KA.out.all
        have ll13_0 := KA.out.lt
        obtain ⟨cc13_10, cc13_11, cc13_12, -, -, -⟩ := KFa.out.all
        have ll13_1 := KFa.out.lt
        obtain ⟨cc13_20, cc13_21, cc13_22, -, -, -⟩ := KFb.out.all
        have ll13_2 := KFb.out.lt
        obtain ⟨cc13_30, cc13_31, cc13_32, -, -, -⟩ := KTa.out.all
        have ll13_3 := KTa.out.lt
        obtain ⟨cc13_40, cc13_41, cc13_42, -, -, -⟩ := KTb.out.all
        have ll13_4 := KTb.out.lt
        obtain ⟨cc13_50, cc13_51, cc13_52, -, -, -⟩ := KX.out.all
        have ll13_5 := KX.out.lt
        obtain ⟨cc13_60, cc13_61, cc13_62, -, -, -⟩ := KP.out.all
        have ll13_6 := KP.out.lt
        obtain ⟨cc13_70, cc13_71, cc13_72, -, -, -⟩ := KCa.out.all
        have ll13_7 := KCa.out.lt
        obtain ⟨cc13_80, cc13_81, cc13_82, -, -, -⟩ := KCb.out.all
        have ll13_8 := KCb.out.lt
        obtain ⟨cc13_90, cc13_91, cc13_92, -, -, -⟩ := KBa.out.all
        have ll13_9 := KBa.out.lt
        obtain ⟨cc13_100, cc13_101, cc13_102, -, -, -⟩ := KBb.out.all
        have ll13_10 := KBb.out.lt
        go_wp2_with (fail)
        refine (sameQ12 eB.r1 eB.c1 eA.r1 eA.c1 eB.zs eA.zs qBa qFa cBa cFa _ GB.out.1 GB.out.2.1 GB.out.2.2 OBa.out.rd OFa.out.rd nFa).mono ?_
        rintro e w11 ⟨rfl, hb⟩
        have OA := Lib.hid (OA.out.keep hb)
        have KA := Lib.hid (KA.out.step hb)
        have OFa := Lib.hid (OFa.out.keep hb)
        have OFb := Lib.hid (OFb.out.keep hb)
        have KFa := Lib.hid (KFa.out.step hb)
        have KFb := Lib.hid (KFb.out.step hb)
        have OTa := Lib.hid (OTa.out.keep hb)
        have OTb := Lib.hid (OTb.out.keep hb)
        have KTa := Lib.hid (KTa.out.step hb)
        have KTb := Lib.hid (KTb.out.step hb)
        have OX := Lib.hid (OX.out.keep hb)
        have KX := Lib.hid (KX.out.step hb)
        have KP := Lib.hid (KP.out.step hb)
        have OP := Lib.hid (OP.out.keep hb)
        have OCa := Lib.hid (OCa.out.keep hb)
        have OCb := Lib.hid (OCb.out.keep hb)
        have KCa := Lib.hid (KCa.out.step hb)
        have KCb := Lib.hid (KCb.out.step hb)
        have OBa := Lib.hid (OBa.out.keep hb)
        have OBb := Lib.hid (OBb.out.keep hb)
        have KBa := Lib.hid (KBa.out.step hb)
        have KBb := Lib.hid (KBb.out.step hb)
        have B := Lib.hid (stepB B.out hb)
        clear hb
        obtain ⟨cc14_00, cc14_01, cc14_02, -, -, -⟩ := KA.out.all
        have ll14_0 := KA.out.lt
        obtain ⟨cc14_10, cc14_11, cc14_12, -, -, -⟩ := KFa.out.all
        have ll14_1 := KFa.out.lt
        obtain ⟨cc14_20, cc14_21, cc14_22, -, -, -⟩ := KFb.out.all
        have ll14_2 := KFb.out.lt
        obtain ⟨cc14_30, cc14_31, cc14_32, -, -, -⟩ := KTa.out.all
        have ll14_3 := KTa.out.lt
        obtain ⟨cc14_40, cc14_41, cc14_42, -, -, -⟩ := KTb.out.all
        have ll14_4 := KTb.out.lt
        obtain ⟨cc14_50, cc14_51, cc14_52, -, -, -⟩ := KX.out.all
        have ll14_5 := KX.out.lt
        obtain ⟨cc14_60, cc14_61, cc14_62, -, -, -⟩ := KP.out.all
        have ll14_6 := KP.out.lt
        obtain ⟨cc14_70, cc14_71, cc14_72, -, -, -⟩ := KCa.out.all
        have ll14_7 := KCa.out.lt
        obtain ⟨cc14_80, cc14_81, cc14_82, -, -, -⟩ := KCb.out.all
        have ll14_8 := KCb.out.lt
        obtain ⟨cc14_90, cc14_91, cc14_92, -, -, -⟩ := KBa.out.all
        have ll14_9 := KBa.out.lt
        obtain ⟨cc14_100, cc14_101, cc14_102, -, -, -⟩ := KBb.out.all
        have ll14_10 := KBb.out.lt
        obtain ⟨cc15_00, cc15_01, cc15_02, -, -, -⟩ := KA.out.all
        have ll15_0 := KA.out.lt
        obtain ⟨cc15_10, cc15_11, cc15_12, -, -, -⟩ := KFa.out.all
        have ll15_1 := KFa.out.lt
        obtain ⟨cc15_20, cc15_21, cc15_22, -, -, -⟩ := KFb.out.all
        have ll15_2 := KFb.out.lt
        obtain ⟨cc15_30, cc15_31, cc15_32, -, -, -⟩ := KTa.out.all
        have ll15_3 := KTa.out.lt
        obtain ⟨cc15_40, cc15_41, cc15_42, -, -, -⟩ := KTb.out.all
        have ll15_4 := KTb.out.lt
        obtain ⟨cc15_50, cc15_51, cc15_52, -, -, -⟩ := KX.out.all
        have ll15_5 := KX.out.lt
        obtain ⟨cc15_60, cc15_61, cc15_62, -, -, -⟩ := KP.out.all
        have ll15_6 := KP.out.lt
        obtain ⟨cc15_70, cc15_71, cc15_72, -, -, -⟩ := KCa.out.all
        have ll15_7 := KCa.out.lt
        obtain ⟨cc15_80, cc15_81, cc15_82, -, -, -⟩ := KCb.out.all
        have ll15_8 := KCb.out.lt
        obtain ⟨cc15_90, cc15_91, cc15_92, -, -, -⟩ := KBa.out.all
        have ll15_9 := KBa.out.lt
        obtain ⟨cc15_100, cc15_101, cc15_102, -, -, -⟩ := KBb.out.all
        have ll15_10 := KBb.out.lt
        go_wp2_with (fail)
        go_ret
        exact ⟨rfl, B.out⟩
      rw [hX]
      rcases Bool.eq_false_or_eq_true mP.ok with hP | hP
      rotate_left
      · rw [hP]
        obtain ⟨x1, x2, x3⟩ := her_prod HeA.out hf HmX.out hX
        have EX := Lib.hid (And.intro x1 (And.intro x2 x3))
        clear x1 x2 x3
        obtain ⟨cc9_00, cc9_01, cc9_02, -, -, -⟩ := KA.out.all
        have ll9_0 := KA.out.lt
        obtain ⟨cc9_10, cc9_11, cc9_12, -, -, -⟩ := KFa.out.all
        have ll9_1 := KFa.out.lt
        obtain ⟨cc9_20, cc9_21, cc9_22, -, -, -⟩ := KFb.out.all
        have ll9_2 := KFb.out.lt
        obtain ⟨cc9_30, cc9_31, cc9_32, -, -, -⟩ := KTa.out.all
        have ll9_3 := KTa.out.lt
        obtain ⟨cc9_40, cc9_41, cc9_42, -, -, -⟩ := KTb.out.all
        have ll9_4 := KTb.out.lt
        obtain ⟨cc9_50, cc9_51, cc9_52, -, -, -⟩ := KX.out.all
        have ll9_5 := KX.out.lt
        obtain ⟨cc9_60, cc9_61, cc9_62, -, -, -⟩ := KP.out.all
        have ll9_6 := KP.out.lt
        obtain ⟨cc9_70, cc9_71, cc9_72, -, -, -⟩ := KCa.out.all
        have ll9_7 := KCa.out.lt
        obtain ⟨cc9_80, cc9_81, cc9_82, -, -, -⟩ := KCb.out.all
        have ll9_8 := KCb.out.lt
        go_wp2_with (fail)
        refine (iIsHermite eA.r1 eA.c1 qFa cFa eA.zs _ ((OFa.out.old _).old _).rd nFa sFa lFa zFa).mono ?_
        rintro e w7 ⟨rfl, hb⟩
        have OA := Lib.hid (((OA.out.old _).old _).keep hb)
        have KA := Lib.hid (((KA.out.old _).old _).step hb)
        have OFa := Lib.hid (((OFa.out.old _).old _).keep hb)
        have OFb := Lib.hid (((OFb.out.old _).old _).keep hb)
        have KFa := Lib.hid (((KFa.out.old _).old _).step hb)
        have KFb := Lib.hid (((KFb.out.old _).old _).step hb)
        have OTa := Lib.hid (((OTa.out.old _).old _).keep hb)
        have OTb := Lib.hid (((OTb.out.old _).old _).keep hb)
        have KTa := Lib.hid (((KTa.out.old _).old _).step hb)
        have KTb := Lib.hid (((KTb.out.old _).old _).step hb)
        have OX := Lib.hid (((OX.out.old _).old _).keep hb)
        have KX := Lib.hid (((KX.out.old _).old _).step hb)
        have KP := Lib.hid (((KP.out.old _).old _).step hb)
        have OP := Lib.hid (((OP.out.old _).old _).keep hb)
        have OCa := Lib.hid (((OCa.out.old _).old _).keep hb)
        have OCb := Lib.hid (((OCb.out.old _).old _).keep hb)
        have KCa := Lib.hid (((KCa.out.old _).old _).step hb)
        have KCb := Lib.hid (((KCb.out.old _).old _).step hb)
        have OBa := Lib.hid (((OBa.out.old _).old _).keep hb)
        have OBb := Lib.hid (((OBb.out.old _).old _).keep hb)
        have KBa : Hid (Blk3 w7 w6.heap.size 26 (.int .i64 (eB.r1)) (.int .i64 (eB.c1)) (.slice qBa eB.zs.length cBa)) := ((Blk3.at_ _ _ _ _ rfl).old _).step hb
        have KBb : Hid (Blk3 w7 (w6.heap.size + 1) 26 (.int .i64 (eB.r2)) (.int .i64 (eB.c2)) (.slice qBb eB.us.length cBb)) := (Blk3.at_ _ _ _ _ (by simp)).step hb
        have B := Lib.hid (stepB ((B.out.alloc B.out.size _).alloc (B.out.alloc B.out.size _).size _) hb)
        clear hb
        rw [F5.out]
        obtain ⟨cc10_00, cc10_01, cc10_02, -, -, -⟩ := KA.out.all
        have ll10_0 := KA.out.lt
        obtain ⟨cc10_10, cc10_11, cc10_12, -, -, -⟩ := KFa.out.all
        have ll10_1 := KFa.out.lt
        obtain ⟨cc10_20, cc10_21, cc10_22, -, -, -⟩ := KFb.out.all
        have ll10_2 := KFb.out.lt
        obtain ⟨cc10_30, cc10_31, cc10_32, -, -, -⟩ := KTa.out.all
        have ll10_3 := KTa.out.lt
        obtain ⟨cc10_40, cc10_41, cc10_42, -, -, -⟩ := KTb.out.all
        have ll10_4 := KTb.out.lt
        obtain ⟨cc10_50, cc10_51, cc10_52, -, -, -⟩ := KX.out.all
        have ll10_5 := KX.out.lt
        obtain ⟨cc10_60, cc10_61, cc10_62, -, -, -⟩ := KP.out.all
        have ll10_6 := KP.out.lt
        obtain ⟨cc10_70, cc10_71, cc10_72, -, -, -⟩ := KCa.out.all
        have ll10_7 := KCa.out.lt
        obtain ⟨cc10_80, cc10_81, cc10_82, -, -, -⟩ := KCb.out.all
        have ll10_8 := KCb.out.lt
        obtain ⟨cc10_90, cc10_91, cc10_92, -, -, -⟩ := KBa.out.all
        have ll10_9 := KBa.out.lt
        obtain ⟨cc10_100, cc10_101, cc10_102, -, -, -⟩ := KBb.out.all
        have ll10_10 := KBb.out.lt
        go_wp2_with (fail)
        refine (sIsHermite eA.r1 eA.c1 qFa cFa eA.zs _ OFa.out.rd nFa).mono ?_
        rintro e w8 ⟨rfl, hb⟩
        have OA := Lib.hid (OA.out.keep hb)
        have KA := Lib.hid (KA.out.step hb)
        have OFa := Lib.hid (OFa.out.keep hb)
        have OFb := Lib.hid (OFb.out.keep hb)
        have KFa := Lib.hid (KFa.out.step hb)
        have KFb := Lib.hid (KFb.out.step hb)
        have OTa := Lib.hid (OTa.out.keep hb)
        have OTb := Lib.hid (OTb.out.keep hb)
        have KTa := Lib.hid (KTa.out.step hb)
        have KTb := Lib.hid (KTb.out.step hb)
        have OX := Lib.hid (OX.out.keep hb)
        have KX := Lib.hid (KX.out.step hb)
        have KP := Lib.hid (KP.out.step hb)
        have OP := Lib.hid (OP.out.keep hb)
        have OCa := Lib.hid (OCa.out.keep hb)
        have OCb := Lib.hid (OCb.out.keep hb)
        have KCa := Lib.hid (KCa.out.step hb)
        have KCb := Lib.hid (KCb.out.step hb)
        have OBa := Lib.hid (OBa.out.keep hb)
        have OBb := Lib.hid (OBb.out.keep hb)
        have KBa := Lib.hid (KBa.out.step hb)
        have KBb := Lib.hid (KBb.out.step hb)
        have B := Lib.hid (stepB B.out hb)
        clear hb
        rw [F5.out]
        obtain ⟨cc11_00, cc11_01, cc11_02, -, -, -⟩ := KA.out.all
        have ll11_0 := KA.out.lt
        obtain ⟨cc11_10, cc11_11, cc11_12, -, -, -⟩ := KFa.out.all
        have ll11_1 := KFa.out.lt
        obtain ⟨cc11_20, cc11_21, cc11_22, -, -, -⟩ := KFb.out.all
        have ll11_2 := KFb.out.lt
        obtain ⟨cc11_30, cc11_31, cc11_32, -, -, -⟩ := KTa.out.all
        have ll11_3 := KTa.out.lt
        obtain ⟨cc11_40, cc11_41, cc11_42, -, -, -⟩ := KTb.out.all
        have ll11_4 := KTb.out.lt
        obtain ⟨cc11_50, cc11_51, cc11_52, -, -, -⟩ := KX.out.all
        have ll11_5 := KX.out.lt
        obtain ⟨cc11_60, cc11_61, cc11_62, -, -, -⟩ := KP.out.all
        have ll11_6 := KP.out.lt
        obtain ⟨cc11_70, cc11_71, cc11_72, -, -, -⟩ := KCa.out.all
        have ll11_7 := KCa.out.lt
        obtain ⟨cc11_80, cc11_81, cc11_82, -, -, -⟩ := KCb.out.all
        have ll11_8 := KCb.out.lt
        obtain ⟨cc11_90, cc11_91, cc11_92, -, -, -⟩ := KBa.out.all
        have ll11_9 := KBa.out.lt
        obtain ⟨cc11_100, cc11_101, cc11_102, -, -, -⟩ := KBb.out.all
        have ll11_10 := KBb.out.lt
        go_wp2_with (fail)
        refine (lUnim eA.r2 eA.c2 qFb cFb eA.us _ OFb.out.rd nFb UN.out).mono ?_
        rintro e w9 ⟨rfl, hb⟩
        have OA := Lib.hid (OA.out.keep hb)
        have KA := Lib.hid (KA.out.step hb)
        have OFa := Lib.hid (OFa.out.keep hb)
        have OFb := Lib.hid (OFb.out.keep hb)
        have KFa := Lib.hid (KFa.out.step hb)
        have KFb := Lib.hid (KFb.out.step hb)
        have OTa := Lib.hid (OTa.out.keep hb)
        have OTb := Lib.hid (OTb.out.keep hb)
        have KTa := Lib.hid (KTa.out.step hb)
        have KTb := Lib.hid (KTb.out.step hb)
        have OX := Lib.hid (OX.out.keep hb)
        have KX := Lib.hid (KX.out.step hb)
        have KP := Lib.hid (KP.out.step hb)
        have OP := Lib.hid (OP.out.keep hb)
        have OCa := Lib.hid (OCa.out.keep hb)
        have OCb := Lib.hid (OCb.out.keep hb)
        have KCa := Lib.hid (KCa.out.step hb)
        have KCb := Lib.hid (KCb.out.step hb)
        have OBa := Lib.hid (OBa.out.keep hb)
        have OBb := Lib.hid (OBb.out.keep hb)
        have KBa := Lib.hid (KBa.out.step hb)
        have KBb := Lib.hid (KBb.out.step hb)
        have B := Lib.hid (stepB B.out hb)
        clear hb
        obtain ⟨cc12_00, cc12_01, cc12_02, -, -, -⟩ := KA.out.all
        have ll12_0 := KA.out.lt
        obtain ⟨cc12_10, cc12_11, cc12_12, -, -, -⟩ := KFa.out.all
        have ll12_1 := KFa.out.lt
        obtain ⟨cc12_20, cc12_21, cc12_22, -, -, -⟩ := KFb.out.all
        have ll12_2 := KFb.out.lt
        obtain ⟨cc12_30, cc12_31, cc12_32, -, -, -⟩ := KTa.out.all
        have ll12_3 := KTa.out.lt
        obtain ⟨cc12_40, cc12_41, cc12_42, -, -, -⟩ := KTb.out.all
        have ll12_4 := KTb.out.lt
        obtain ⟨cc12_50, cc12_51, cc12_52, -, -, -⟩ := KX.out.all
        have ll12_5 := KX.out.lt
        obtain ⟨cc12_60, cc12_61, cc12_62, -, -, -⟩ := KP.out.all
        have ll12_6 := KP.out.lt
        obtain ⟨cc12_70, cc12_71, cc12_72, -, -, -⟩ := KCa.out.all
        have ll12_7 := KCa.out.lt
        obtain ⟨cc12_80, cc12_81, cc12_82, -, -, -⟩ := KCb.out.all
        have ll12_8 := KCb.out.lt
        obtain ⟨cc12_90, cc12_91, cc12_92, -, -, -⟩ := KBa.out.all
        have ll12_9 := KBa.out.lt
        obtain ⟨cc12_100, cc12_101, cc12_102, -, -, -⟩ := KBb.out.all
        have ll12_10 := KBb.out.lt
        go_wp2_with (fail)
        refine (sameQ12 mX.r mX.c eA.r1 eA.c1 mX.zs eA.zs qX qFa qcX cFa _ EX.out.1 EX.out.2.1 EX.out.2.2 OX.out.rd OFa.out.rd nFa).mono ?_
        rintro e w10 ⟨rfl, hb⟩
        have OA := Lib.hid (OA.out.keep hb)
        have KA := Lib.hid (KA.out.step hb)
        have OFa := Lib.hid (OFa.out.keep hb)
        have OFb := Lib.hid (OFb.out.keep hb)
        have KFa := Lib.hid (KFa.out.step hb)
        have KFb := Lib.hid (KFb.out.step hb)
        have OTa := Lib.hid (OTa.out.keep hb)
        have OTb := Lib.hid (OTb.out.keep hb)
        have KTa := Lib.hid (KTa.out.step hb)
        have KTb := Lib.hid (KTb.out.step hb)
        have OX := Lib.hid (OX.out.keep hb)
        have KX := Lib.hid (KX.out.step hb)
        have KP := Lib.hid (KP.out.step hb)
        have OP := Lib.hid (OP.out.keep hb)
        have OCa := Lib.hid (OCa.out.keep hb)
        have OCb := Lib.hid (OCb.out.keep hb)
        have KCa := Lib.hid (KCa.out.step hb)
        have KCb := Lib.hid (KCb.out.step hb)
        have OBa := Lib.hid (OBa.out.keep hb)
        have OBb := Lib.hid (OBb.out.keep hb)
        have KBa := Lib.hid (KBa.out.step hb)
        have KBb := Lib.hid (KBb.out.step hb)
        have B := Lib.hid (stepB B.out hb)
        clear hb
        obtain ⟨cc13_00, cc13_01, cc13_02, -, -, -⟩ := KA.out.all
        have ll13_0 := KA.out.lt
        obtain ⟨cc13_10, cc13_11, cc13_12, -, -, -⟩ := KFa.out.all
        have ll13_1 := KFa.out.lt
        obtain ⟨cc13_20, cc13_21, cc13_22, -, -, -⟩ := KFb.out.all
        have ll13_2 := KFb.out.lt
        obtain ⟨cc13_30, cc13_31, cc13_32, -, -, -⟩ := KTa.out.all
        have ll13_3 := KTa.out.lt
        obtain ⟨cc13_40, cc13_41, cc13_42, -, -, -⟩ := KTb.out.all
        have ll13_4 := KTb.out.lt
        obtain ⟨cc13_50, cc13_51, cc13_52, -, -, -⟩ := KX.out.all
        have ll13_5 := KX.out.lt
        obtain ⟨cc13_60, cc13_61, cc13_62, -, -, -⟩ := KP.out.all
        have ll13_6 := KP.out.lt
        obtain ⟨cc13_70, cc13_71, cc13_72, -, -, -⟩ := KCa.out.all
        have ll13_7 := KCa.out.lt
        obtain ⟨cc13_80, cc13_81, cc13_82, -, -, -⟩ := KCb.out.all
        have ll13_8 := KCb.out.lt
        obtain ⟨cc13_90, cc13_91, cc13_92, -, -, -⟩ := KBa.out.all
        have ll13_9 := KBa.out.lt
        obtain ⟨cc13_100, cc13_101, cc13_102, -, -, -⟩ := KBb.out.all
        have ll13_10 := KBb.out.lt
        go_wp2_with (fail)
        refine (sameQ12 eB.r1 eB.c1 eA.r1 eA.c1 eB.zs eA.zs qBa qFa cBa cFa _ GB.out.1 GB.out.2.1 GB.out.2.2 OBa.out.rd OFa.out.rd nFa).mono ?_
        rintro e w11 ⟨rfl, hb⟩
        have OA := Lib.hid (OA.out.keep hb)
        have KA := Lib.hid (KA.out.step hb)
        have OFa := Lib.hid (OFa.out.keep hb)
        have OFb := Lib.hid (OFb.out.keep hb)
        have KFa := Lib.hid (KFa.out.step hb)
        have KFb := Lib.hid (KFb.out.step hb)
        have OTa := Lib.hid (OTa.out.keep hb)
        have OTb := Lib.hid (OTb.out.keep hb)
        have KTa := Lib.hid (KTa.out.step hb)
        have KTb := Lib.hid (KTb.out.step hb)
        have OX := Lib.hid (OX.out.keep hb)
        have KX := Lib.hid (KX.out.step hb)
        have KP := Lib.hid (KP.out.step hb)
        have OP := Lib.hid (OP.out.keep hb)
        have OCa := Lib.hid (OCa.out.keep hb)
        have OCb := Lib.hid (OCb.out.keep hb)
        have KCa := Lib.hid (KCa.out.step hb)
        have KCb := Lib.hid (KCb.out.step hb)
        have OBa := Lib.hid (OBa.out.keep hb)
        have OBb := Lib.hid (OBb.out.keep hb)
        have KBa := Lib.hid (KBa.out.step hb)
        have KBb := Lib.hid (KBb.out.step hb)
        have B := Lib.hid (stepB B.out hb)
        clear hb
        obtain ⟨cc14_00, cc14_01, cc14_02, -, -, -⟩ := KA.out.all
        have ll14_0 := KA.out.lt
        obtain ⟨cc14_10, cc14_11, cc14_12, -, -, -⟩ := KFa.out.all
        have ll14_1 := KFa.out.lt
        obtain ⟨cc14_20, cc14_21, cc14_22, -, -, -⟩ := KFb.out.all
        have ll14_2 := KFb.out.lt
        obtain ⟨cc14_30, cc14_31, cc14_32, -, -, -⟩ := KTa.out.all
        have ll14_3 := KTa.out.lt
        obtain ⟨cc14_40, cc14_41, cc14_42, -, -, -⟩ := KTb.out.all
        have ll14_4 := KTb.out.lt
        obtain ⟨cc14_50, cc14_51, cc14_52, -, -, -⟩ := KX.out.all
        have ll14_5 := KX.out.lt
        obtain ⟨cc14_60, cc14_61, cc14_62, -, -, -⟩ := KP.out.all
        have ll14_6 := KP.out.lt
        obtain ⟨cc14_70, cc14_71, cc14_72, -, -, -⟩ := KCa.out.all
        have ll14_7 := KCa.out.lt
        obtain ⟨cc14_80, cc14_81, cc14_82, -, -, -⟩ := KCb.out.all
        have ll14_8 := KCb.out.lt
        obtain ⟨cc14_90, cc14_91, cc14_92, -, -, -⟩ := KBa.out.all
        have ll14_9 := KBa.out.lt
        obtain ⟨cc14_100, cc14_101, cc14_102, -, -, -⟩ := KBb.out.all
        have ll14_10 := KBb.out.lt
        obtain ⟨cc15_00, cc15_01, cc15_02, -, -, -⟩ := KA.out.all
        have ll15_0 := KA.out.lt
        obtain ⟨cc15_10, cc15_11, cc15_12, -, -, -⟩ := KFa.out.all
        have ll15_1 := KFa.out.lt
        obtain ⟨cc15_20, cc15_21, cc15_22, -, -, -⟩ := KFb.out.all
        have ll15_2 := KFb.out.lt
        obtain ⟨cc15_30, cc15_31, cc15_32, -, -, -⟩ := KTa.out.all
        have ll15_3 := KTa.out.lt
        obtain ⟨cc15_40, cc15_41, cc15_42, -, -, -⟩ := KTb.out.all
        have ll15_4 := KTb.out.lt
        obtain ⟨cc15_50, cc15_51, cc15_52, -, -, -⟩ := KX.out.all
        have ll15_5 := KX.out.lt
        obtain ⟨cc15_60, cc15_61, cc15_62, -, -, -⟩ := KP.out.all
        have ll15_6 := KP.out.lt
        obtain ⟨cc15_70, cc15_71, cc15_72, -, -, -⟩ := KCa.out.all
        have ll15_7 := KCa.out.lt
        obtain ⟨cc15_80, cc15_81, cc15_82, -, -, -⟩ := KCb.out.all
        have ll15_8 := KCb.out.lt
        obtain ⟨cc15_90, cc15_91, cc15_92, -, -, -⟩ := KBa.out.all
        have ll15_9 := KBa.out.lt
        obtain ⟨cc15_100, cc15_101, cc15_102, -, -, -⟩ := KBb.out.all
        have ll15_10 := KBb.out.lt
        go_wp2_with (fail)
        go_ret
        exact ⟨rfl, B.out⟩
      rw [hP]
      rcases Bool.eq_false_or_eq_true eC.ok with hC | hC
      rotate_left
      · rw [hC]
        obtain ⟨x1, x2, x3⟩ := her_prod HeA.out hf HmX.out hX
        have EX := Lib.hid (And.intro x1 (And.intro x2 x3))
        clear x1 x2 x3
        obtain ⟨cc9_00, cc9_01, cc9_02, -, -, -⟩ := KA.out.all
        have ll9_0 := KA.out.lt
        obtain ⟨cc9_10, cc9_11, cc9_12, -, -, -⟩ := KFa.out.all
        have ll9_1 := KFa.out.lt
        obtain ⟨cc9_20, cc9_21, cc9_22, -, -, -⟩ := KFb.out.all
        have ll9_2 := KFb.out.lt
        obtain ⟨cc9_30, cc9_31, cc9_32, -, -, -⟩ := KTa.out.all
        have ll9_3 := KTa.out.lt
        obtain ⟨cc9_40, cc9_41, cc9_42, -, -, -⟩ := KTb.out.all
        have ll9_4 := KTb.out.lt
        obtain ⟨cc9_50, cc9_51, cc9_52, -, -, -⟩ := KX.out.all
        have ll9_5 := KX.out.lt
        obtain ⟨cc9_60, cc9_61, cc9_62, -, -, -⟩ := KP.out.all
        have ll9_6 := KP.out.lt
        obtain ⟨cc9_70, cc9_71, cc9_72, -, -, -⟩ := KCa.out.all
        have ll9_7 := KCa.out.lt
        obtain ⟨cc9_80, cc9_81, cc9_82, -, -, -⟩ := KCb.out.all
        have ll9_8 := KCb.out.lt
        go_wp2_with (fail)
        refine (iIsHermite eA.r1 eA.c1 qFa cFa eA.zs _ ((OFa.out.old _).old _).rd nFa sFa lFa zFa).mono ?_
        rintro e w7 ⟨rfl, hb⟩
        have OA := Lib.hid (((OA.out.old _).old _).keep hb)
        have KA := Lib.hid (((KA.out.old _).old _).step hb)
        have OFa := Lib.hid (((OFa.out.old _).old _).keep hb)
        have OFb := Lib.hid (((OFb.out.old _).old _).keep hb)
        have KFa := Lib.hid (((KFa.out.old _).old _).step hb)
        have KFb := Lib.hid (((KFb.out.old _).old _).step hb)
        have OTa := Lib.hid (((OTa.out.old _).old _).keep hb)
        have OTb := Lib.hid (((OTb.out.old _).old _).keep hb)
        have KTa := Lib.hid (((KTa.out.old _).old _).step hb)
        have KTb := Lib.hid (((KTb.out.old _).old _).step hb)
        have OX := Lib.hid (((OX.out.old _).old _).keep hb)
        have KX := Lib.hid (((KX.out.old _).old _).step hb)
        have KP := Lib.hid (((KP.out.old _).old _).step hb)
        have OP := Lib.hid (((OP.out.old _).old _).keep hb)
        have OCa := Lib.hid (((OCa.out.old _).old _).keep hb)
        have OCb := Lib.hid (((OCb.out.old _).old _).keep hb)
        have KCa := Lib.hid (((KCa.out.old _).old _).step hb)
        have KCb := Lib.hid (((KCb.out.old _).old _).step hb)
        have OBa := Lib.hid (((OBa.out.old _).old _).keep hb)
        have OBb := Lib.hid (((OBb.out.old _).old _).keep hb)
        have KBa : Hid (Blk3 w7 w6.heap.size 26 (.int .i64 (eB.r1)) (.int .i64 (eB.c1)) (.slice qBa eB.zs.length cBa)) := ((Blk3.at_ _ _ _ _ rfl).old _).step hb
        have KBb : Hid (Blk3 w7 (w6.heap.size + 1) 26 (.int .i64 (eB.r2)) (.int .i64 (eB.c2)) (.slice qBb eB.us.length cBb)) := (Blk3.at_ _ _ _ _ (by simp)).step hb
        have B := Lib.hid (stepB ((B.out.alloc B.out.size _).alloc (B.out.alloc B.out.size _).size _) hb)
        clear hb
        rw [F5.out]
        obtain ⟨cc10_00, cc10_01, cc10_02, -, -, -⟩ := KA.out.all
        have ll10_0 := KA.out.lt
        obtain ⟨cc10_10, cc10_11, cc10_12, -, -, -⟩ := KFa.out.all
        have ll10_1 := KFa.out.lt
        obtain ⟨cc10_20, cc10_21, cc10_22, -, -, -⟩ := KFb.out.all
        have ll10_2 := KFb.out.lt
        obtain ⟨cc10_30, cc10_31, cc10_32, -, -, -⟩ := KTa.out.all
        have ll10_3 := KTa.out.lt
        obtain ⟨cc10_40, cc10_41, cc10_42, -, -, -⟩ := KTb.out.all
        have ll10_4 := KTb.out.lt
        obtain ⟨cc10_50, cc10_51, cc10_52, -, -, -⟩ := KX.out.all
        have ll10_5 := KX.out.lt
        obtain ⟨cc10_60, cc10_61, cc10_62, -, -, -⟩ := KP.out.all
        have ll10_6 := KP.out.lt
        obtain ⟨cc10_70, cc10_71, cc10_72, -, -, -⟩ := KCa.out.all
        have ll10_7 := KCa.out.lt
        obtain ⟨cc10_80, cc10_81, cc10_82, -, -, -⟩ := KCb.out.all
        have ll10_8 := KCb.out.lt
        obtain ⟨cc10_90, cc10_91, cc10_92, -, -, -⟩ := KBa.out.all
        have ll10_9 := KBa.out.lt
        obtain ⟨cc10_100, cc10_101, cc10_102, -, -, -⟩ := KBb.out.all
        have ll10_10 := KBb.out.lt
        go_wp2_with (fail)
        refine (sIsHermite eA.r1 eA.c1 qFa cFa eA.zs _ OFa.out.rd nFa).mono ?_
        rintro e w8 ⟨rfl, hb⟩
        have OA := Lib.hid (OA.out.keep hb)
        have KA := Lib.hid (KA.out.step hb)
        have OFa := Lib.hid (OFa.out.keep hb)
        have OFb := Lib.hid (OFb.out.keep hb)
        have KFa := Lib.hid (KFa.out.step hb)
        have KFb := Lib.hid (KFb.out.step hb)
        have OTa := Lib.hid (OTa.out.keep hb)
        have OTb := Lib.hid (OTb.out.keep hb)
        have KTa := Lib.hid (KTa.out.step hb)
        have KTb := Lib.hid (KTb.out.step hb)
        have OX := Lib.hid (OX.out.keep hb)
        have KX := Lib.hid (KX.out.step hb)
        have KP := Lib.hid (KP.out.step hb)
        have OP := Lib.hid (OP.out.keep hb)
        have OCa := Lib.hid (OCa.out.keep hb)
        have OCb := Lib.hid (OCb.out.keep hb)
        have KCa := Lib.hid (KCa.out.step hb)
        have KCb := Lib.hid (KCb.out.step hb)
        have OBa := Lib.hid (OBa.out.keep hb)
        have OBb := Lib.hid (OBb.out.keep hb)
        have KBa := Lib.hid (KBa.out.step hb)
        have KBb := Lib.hid (KBb.out.step hb)
        have B := Lib.hid (stepB B.out hb)
        clear hb
        rw [F5.out]
        obtain ⟨cc11_00, cc11_01, cc11_02, -, -, -⟩ := KA.out.all
        have ll11_0 := KA.out.lt
        obtain ⟨cc11_10, cc11_11, cc11_12, -, -, -⟩ := KFa.out.all
        have ll11_1 := KFa.out.lt
        obtain ⟨cc11_20, cc11_21, cc11_22, -, -, -⟩ := KFb.out.all
        have ll11_2 := KFb.out.lt
        obtain ⟨cc11_30, cc11_31, cc11_32, -, -, -⟩ := KTa.out.all
        have ll11_3 := KTa.out.lt
        obtain ⟨cc11_40, cc11_41, cc11_42, -, -, -⟩ := KTb.out.all
        have ll11_4 := KTb.out.lt
        obtain ⟨cc11_50, cc11_51, cc11_52, -, -, -⟩ := KX.out.all
        have ll11_5 := KX.out.lt
        obtain ⟨cc11_60, cc11_61, cc11_62, -, -, -⟩ := KP.out.all
        have ll11_6 := KP.out.lt
        obtain ⟨cc11_70, cc11_71, cc11_72, -, -, -⟩ := KCa.out.all
        have ll11_7 := KCa.out.lt
        obtain ⟨cc11_80, cc11_81, cc11_82, -, -, -⟩ := KCb.out.all
        have ll11_8 := KCb.out.lt
        obtain ⟨cc11_90, cc11_91, cc11_92, -, -, -⟩ := KBa.out.all
        have ll11_9 := KBa.out.lt
        obtain ⟨cc11_100, cc11_101, cc11_102, -, -, -⟩ := KBb.out.all
        have ll11_10 := KBb.out.lt
        go_wp2_with (fail)
        refine (lUnim eA.r2 eA.c2 qFb cFb eA.us _ OFb.out.rd nFb UN.out).mono ?_
        rintro e w9 ⟨rfl, hb⟩
        have OA := Lib.hid (OA.out.keep hb)
        have KA := Lib.hid (KA.out.step hb)
        have OFa := Lib.hid (OFa.out.keep hb)
        have OFb := Lib.hid (OFb.out.keep hb)
        have KFa := Lib.hid (KFa.out.step hb)
        have KFb := Lib.hid (KFb.out.step hb)
        have OTa := Lib.hid (OTa.out.keep hb)
        have OTb := Lib.hid (OTb.out.keep hb)
        have KTa := Lib.hid (KTa.out.step hb)
        have KTb := Lib.hid (KTb.out.step hb)
        have OX := Lib.hid (OX.out.keep hb)
        have KX := Lib.hid (KX.out.step hb)
        have KP := Lib.hid (KP.out.step hb)
        have OP := Lib.hid (OP.out.keep hb)
        have OCa := Lib.hid (OCa.out.keep hb)
        have OCb := Lib.hid (OCb.out.keep hb)
        have KCa := Lib.hid (KCa.out.step hb)
        have KCb := Lib.hid (KCb.out.step hb)
        have OBa := Lib.hid (OBa.out.keep hb)
        have OBb := Lib.hid (OBb.out.keep hb)
        have KBa := Lib.hid (KBa.out.step hb)
        have KBb := Lib.hid (KBb.out.step hb)
        have B := Lib.hid (stepB B.out hb)
        clear hb
        obtain ⟨cc12_00, cc12_01, cc12_02, -, -, -⟩ := KA.out.all
        have ll12_0 := KA.out.lt
        obtain ⟨cc12_10, cc12_11, cc12_12, -, -, -⟩ := KFa.out.all
        have ll12_1 := KFa.out.lt
        obtain ⟨cc12_20, cc12_21, cc12_22, -, -, -⟩ := KFb.out.all
        have ll12_2 := KFb.out.lt
        obtain ⟨cc12_30, cc12_31, cc12_32, -, -, -⟩ := KTa.out.all
        have ll12_3 := KTa.out.lt
        obtain ⟨cc12_40, cc12_41, cc12_42, -, -, -⟩ := KTb.out.all
        have ll12_4 := KTb.out.lt
        obtain ⟨cc12_50, cc12_51, cc12_52, -, -, -⟩ := KX.out.all
        have ll12_5 := KX.out.lt
        obtain ⟨cc12_60, cc12_61, cc12_62, -, -, -⟩ := KP.out.all
        have ll12_6 := KP.out.lt
        obtain ⟨cc12_70, cc12_71, cc12_72, -, -, -⟩ := KCa.out.all
        have ll12_7 := KCa.out.lt
        obtain ⟨cc12_80, cc12_81, cc12_82, -, -, -⟩ := KCb.out.all
        have ll12_8 := KCb.out.lt
        obtain ⟨cc12_90, cc12_91, cc12_92, -, -, -⟩ := KBa.out.all
        have ll12_9 := KBa.out.lt
        obtain ⟨cc12_100, cc12_101, cc12_102, -, -, -⟩ := KBb.out.all
        have ll12_10 := KBb.out.lt
        go_wp2_with (fail)
        refine (sameQ12 mX.r mX.c eA.r1 eA.c1 mX.zs eA.zs qX qFa qcX cFa _ EX.out.1 EX.out.2.1 EX.out.2.2 OX.out.rd OFa.out.rd nFa).mono ?_
        rintro e w10 ⟨rfl, hb⟩
        have OA := Lib.hid (OA.out.keep hb)
        have KA := Lib.hid (KA.out.step hb)
        have OFa := Lib.hid (OFa.out.keep hb)
        have OFb := Lib.hid (OFb.out.keep hb)
        have KFa := Lib.hid (KFa.out.step hb)
        have KFb := Lib.hid (KFb.out.step hb)
        have OTa := Lib.hid (OTa.out.keep hb)
        have OTb := Lib.hid (OTb.out.keep hb)
        have KTa := Lib.hid (KTa.out.step hb)
        have KTb := Lib.hid (KTb.out.step hb)
        have OX := Lib.hid (OX.out.keep hb)
        have KX := Lib.hid (KX.out.step hb)
        have KP := Lib.hid (KP.out.step hb)
        have OP := Lib.hid (OP.out.keep hb)
        have OCa := Lib.hid (OCa.out.keep hb)
        have OCb := Lib.hid (OCb.out.keep hb)
        have KCa := Lib.hid (KCa.out.step hb)
        have KCb := Lib.hid (KCb.out.step hb)
        have OBa := Lib.hid (OBa.out.keep hb)
        have OBb := Lib.hid (OBb.out.keep hb)
        have KBa := Lib.hid (KBa.out.step hb)
        have KBb := Lib.hid (KBb.out.step hb)
        have B := Lib.hid (stepB B.out hb)
        clear hb
        obtain ⟨cc13_00, cc13_01, cc13_02, -, -, -⟩ := KA.out.all
        have ll13_0 := KA.out.lt
        obtain ⟨cc13_10, cc13_11, cc13_12, -, -, -⟩ := KFa.out.all
        have ll13_1 := KFa.out.lt
        obtain ⟨cc13_20, cc13_21, cc13_22, -, -, -⟩ := KFb.out.all
        have ll13_2 := KFb.out.lt
        obtain ⟨cc13_30, cc13_31, cc13_32, -, -, -⟩ := KTa.out.all
        have ll13_3 := KTa.out.lt
        obtain ⟨cc13_40, cc13_41, cc13_42, -, -, -⟩ := KTb.out.all
        have ll13_4 := KTb.out.lt
        obtain ⟨cc13_50, cc13_51, cc13_52, -, -, -⟩ := KX.out.all
        have ll13_5 := KX.out.lt
        obtain ⟨cc13_60, cc13_61, cc13_62, -, -, -⟩ := KP.out.all
        have ll13_6 := KP.out.lt
        obtain ⟨cc13_70, cc13_71, cc13_72, -, -, -⟩ := KCa.out.all
        have ll13_7 := KCa.out.lt
        obtain ⟨cc13_80, cc13_81, cc13_82, -, -, -⟩ := KCb.out.all
        have ll13_8 := KCb.out.lt
        obtain ⟨cc13_90, cc13_91, cc13_92, -, -, -⟩ := KBa.out.all
        have ll13_9 := KBa.out.lt
        obtain ⟨cc13_100, cc13_101, cc13_102, -, -, -⟩ := KBb.out.all
        have ll13_10 := KBb.out.lt
        go_wp2_with (fail)
        refine (sameQ12 eB.r1 eB.c1 eA.r1 eA.c1 eB.zs eA.zs qBa qFa cBa cFa _ GB.out.1 GB.out.2.1 GB.out.2.2 OBa.out.rd OFa.out.rd nFa).mono ?_
        rintro e w11 ⟨rfl, hb⟩
        have OA := Lib.hid (OA.out.keep hb)
        have KA := Lib.hid (KA.out.step hb)
        have OFa := Lib.hid (OFa.out.keep hb)
        have OFb := Lib.hid (OFb.out.keep hb)
        have KFa := Lib.hid (KFa.out.step hb)
        have KFb := Lib.hid (KFb.out.step hb)
        have OTa := Lib.hid (OTa.out.keep hb)
        have OTb := Lib.hid (OTb.out.keep hb)
        have KTa := Lib.hid (KTa.out.step hb)
        have KTb := Lib.hid (KTb.out.step hb)
        have OX := Lib.hid (OX.out.keep hb)
        have KX := Lib.hid (KX.out.step hb)
        have KP := Lib.hid (KP.out.step hb)
        have OP := Lib.hid (OP.out.keep hb)
        have OCa := Lib.hid (OCa.out.keep hb)
        have OCb := Lib.hid (OCb.out.keep hb)
        have KCa := Lib.hid (KCa.out.step hb)
        have KCb := Lib.hid (KCb.out.step hb)
        have OBa := Lib.hid (OBa.out.keep hb)
        have OBb := Lib.hid (OBb.out.keep hb)
        have KBa := Lib.hid (KBa.out.step hb)
        have KBb := Lib.hid (KBb.out.step hb)
        have B := Lib.hid (stepB B.out hb)
        clear hb
        obtain ⟨cc14_00, cc14_01, cc14_02, -, -, -⟩ := KA.out.all
        have ll14_0 := KA.out.lt
        obtain ⟨cc14_10, cc14_11, cc14_12, -, -, -⟩ := KFa.out.all
        have ll14_1 := KFa.out.lt
        obtain ⟨cc14_20, cc14_21, cc14_22, -, -, -⟩ := KFb.out.all
        have ll14_2 := KFb.out.lt
        obtain ⟨cc14_30, cc14_31, cc14_32, -, -, -⟩ := KTa.out.all
        have ll14_3 := KTa.out.lt
        obtain ⟨cc14_40, cc14_41, cc14_42, -, -, -⟩ := KTb.out.all
        have ll14_4 := KTb.out.lt
        obtain ⟨cc14_50, cc14_51, cc14_52, -, -, -⟩ := KX.out.all
        have ll14_5 := KX.out.lt
        obtain ⟨cc14_60, cc14_61, cc14_62, -, -, -⟩ := KP.out.all
        have ll14_6 := KP.out.lt
        obtain ⟨cc14_70, cc14_71, cc14_72, -, -, -⟩ := KCa.out.all
        have ll14_7 := KCa.out.lt
        obtain ⟨cc14_80, cc14_81, cc14_82, -, -, -⟩ := KCb.out.all
        have ll14_8 := KCb.out.lt
        obtain ⟨cc14_90, cc14_91, cc14_92, -, -, -⟩ := KBa.out.all
        have ll14_9 := KBa.out.lt
        obtain ⟨cc14_100, cc14_101, cc14_102, -, -, -⟩ := KBb.out.all
        have ll14_10 := KBb.out.lt
        obtain ⟨cc15_00, cc15_01, cc15_02, -, -, -⟩ := KA.out.all
        have ll15_0 := KA.out.lt
        obtain ⟨cc15_10, cc15_11, cc15_12, -, -, -⟩ := KFa.out.all
        have ll15_1 := KFa.out.lt
        obtain ⟨cc15_20, cc15_21, cc15_22, -, -, -⟩ := KFb.out.all
        have ll15_2 := KFb.out.lt
        obtain ⟨cc15_30, cc15_31, cc15_32, -, -, -⟩ := KTa.out.all
        have ll15_3 := KTa.out.lt
        obtain ⟨cc15_40, cc15_41, cc15_42, -, -, -⟩ := KTb.out.all
        have ll15_4 := KTb.out.lt
        obtain ⟨cc15_50, cc15_51, cc15_52, -, -, -⟩ := KX.out.all
        have ll15_5 := KX.out.lt
        obtain ⟨cc15_60, cc15_61, cc15_62, -, -, -⟩ := KP.out.all
        have ll15_6 := KP.out.lt
        obtain ⟨cc15_70, cc15_71, cc15_72, -, -, -⟩ := KCa.out.all
        have ll15_7 := KCa.out.lt
        obtain ⟨cc15_80, cc15_81, cc15_82, -, -, -⟩ := KCb.out.all
        have ll15_8 := KCb.out.lt
        obtain ⟨cc15_90, cc15_91, cc15_92, -, -, -⟩ := KBa.out.all
        have ll15_9 := KBa.out.lt
        obtain ⟨cc15_100, cc15_101, cc15_102, -, -, -⟩ := KBb.out.all
        have ll15_10 := KBb.out.lt
        go_wp2_with (fail)
        go_ret
        exact ⟨rfl, B.out⟩
      rw [hC]
      obtain ⟨x1, x2, x3⟩ := her_prod HeA.out hf HmX.out hX
      have EX := Lib.hid (And.intro x1 (And.intro x2 x3))
      clear x1 x2 x3
      obtain ⟨x1, x2, x3⟩ := her_mix HeA.out hf PM.out HmP.out hP (by rw [HeC.out]; exact hC)
      rw [HeC.out] at x1 x2 x3
      have EC := Lib.hid (And.intro x1 (And.intro x2 x3))
      clear x1 x2 x3
      obtain ⟨cc9_00, cc9_01, cc9_02, -, -, -⟩ := KA.out.all
      have ll9_0 := KA.out.lt
      obtain ⟨cc9_10, cc9_11, cc9_12, -, -, -⟩ := KFa.out.all
      have ll9_1 := KFa.out.lt
      obtain ⟨cc9_20, cc9_21, cc9_22, -, -, -⟩ := KFb.out.all
      have ll9_2 := KFb.out.lt
      obtain ⟨cc9_30, cc9_31, cc9_32, -, -, -⟩ := KTa.out.all
      have ll9_3 := KTa.out.lt
      obtain ⟨cc9_40, cc9_41, cc9_42, -, -, -⟩ := KTb.out.all
      have ll9_4 := KTb.out.lt
      obtain ⟨cc9_50, cc9_51, cc9_52, -, -, -⟩ := KX.out.all
      have ll9_5 := KX.out.lt
      obtain ⟨cc9_60, cc9_61, cc9_62, -, -, -⟩ := KP.out.all
      have ll9_6 := KP.out.lt
      obtain ⟨cc9_70, cc9_71, cc9_72, -, -, -⟩ := KCa.out.all
      have ll9_7 := KCa.out.lt
      obtain ⟨cc9_80, cc9_81, cc9_82, -, -, -⟩ := KCb.out.all
      have ll9_8 := KCb.out.lt
      go_wp2_with (fail)
      refine (iIsHermite eA.r1 eA.c1 qFa cFa eA.zs _ ((OFa.out.old _).old _).rd nFa sFa lFa zFa).mono ?_
      rintro e w7 ⟨rfl, hb⟩
      have OA := Lib.hid (((OA.out.old _).old _).keep hb)
      have KA := Lib.hid (((KA.out.old _).old _).step hb)
      have OFa := Lib.hid (((OFa.out.old _).old _).keep hb)
      have OFb := Lib.hid (((OFb.out.old _).old _).keep hb)
      have KFa := Lib.hid (((KFa.out.old _).old _).step hb)
      have KFb := Lib.hid (((KFb.out.old _).old _).step hb)
      have OTa := Lib.hid (((OTa.out.old _).old _).keep hb)
      have OTb := Lib.hid (((OTb.out.old _).old _).keep hb)
      have KTa := Lib.hid (((KTa.out.old _).old _).step hb)
      have KTb := Lib.hid (((KTb.out.old _).old _).step hb)
      have OX := Lib.hid (((OX.out.old _).old _).keep hb)
      have KX := Lib.hid (((KX.out.old _).old _).step hb)
      have KP := Lib.hid (((KP.out.old _).old _).step hb)
      have OP := Lib.hid (((OP.out.old _).old _).keep hb)
      have OCa := Lib.hid (((OCa.out.old _).old _).keep hb)
      have OCb := Lib.hid (((OCb.out.old _).old _).keep hb)
      have KCa := Lib.hid (((KCa.out.old _).old _).step hb)
      have KCb := Lib.hid (((KCb.out.old _).old _).step hb)
      have OBa := Lib.hid (((OBa.out.old _).old _).keep hb)
      have OBb := Lib.hid (((OBb.out.old _).old _).keep hb)
      have KBa : Hid (Blk3 w7 w6.heap.size 26 (.int .i64 (eB.r1)) (.int .i64 (eB.c1)) (.slice qBa eB.zs.length cBa)) := ((Blk3.at_ _ _ _ _ rfl).old _).step hb
      have KBb : Hid (Blk3 w7 (w6.heap.size + 1) 26 (.int .i64 (eB.r2)) (.int .i64 (eB.c2)) (.slice qBb eB.us.length cBb)) := (Blk3.at_ _ _ _ _ (by simp)).step hb
      have B := Lib.hid (stepB ((B.out.alloc B.out.size _).alloc (B.out.alloc B.out.size _).size _) hb)
      clear hb
      rw [F5.out]
      obtain ⟨cc10_00, cc10_01, cc10_02, -, -, -⟩ := KA.out.all
      have ll10_0 := KA.out.lt
      obtain ⟨cc10_10, cc10_11, cc10_12, -, -, -⟩ := KFa.out.all
      have ll10_1 := KFa.out.lt
      obtain ⟨cc10_20, cc10_21, cc10_22, -, -, -⟩ := KFb.out.all
      have ll10_2 := KFb.out.lt
      obtain ⟨cc10_30, cc10_31, cc10_32, -, -, -⟩ := KTa.out.all
      have ll10_3 := KTa.out.lt
      obtain ⟨cc10_40, cc10_41, cc10_42, -, -, -⟩ := KTb.out.all
      have ll10_4 := KTb.out.lt
      obtain ⟨cc10_50, cc10_51, cc10_52, -, -, -⟩ := KX.out.all
      have ll10_5 := KX.out.lt
      obtain ⟨cc10_60, cc10_61, cc10_62, -, -, -⟩ := KP.out.all
      have ll10_6 := KP.out.lt
      obtain ⟨cc10_70, cc10_71, cc10_72, -, -, -⟩ := KCa.out.all
      have ll10_7 := KCa.out.lt
      obtain ⟨cc10_80, cc10_81, cc10_82, -, -, -⟩ := KCb.out.all
      have ll10_8 := KCb.out.lt
      obtain ⟨cc10_90, cc10_91, cc10_92, -, -, -⟩ := KBa.out.all
      have ll10_9 := KBa.out.lt
      obtain ⟨cc10_100, cc10_101, cc10_102, -, -, -⟩ := KBb.out.all
      have ll10_10 := KBb.out.lt
      go_wp2_with (fail)
      refine (sIsHermite eA.r1 eA.c1 qFa cFa eA.zs _ OFa.out.rd nFa).mono ?_
      rintro e w8 ⟨rfl, hb⟩
      have OA := Lib.hid (OA.out.keep hb)
      have KA := Lib.hid (KA.out.step hb)
      have OFa := Lib.hid (OFa.out.keep hb)
      have OFb := Lib.hid (OFb.out.keep hb)
      have KFa := Lib.hid (KFa.out.step hb)
      have KFb := Lib.hid (KFb.out.step hb)
      have OTa := Lib.hid (OTa.out.keep hb)
      have OTb := Lib.hid (OTb.out.keep hb)
      have KTa := Lib.hid (KTa.out.step hb)
      have KTb := Lib.hid (KTb.out.step hb)
      have OX := Lib.hid (OX.out.keep hb)
      have KX := Lib.hid (KX.out.step hb)
      have KP := Lib.hid (KP.out.step hb)
      have OP := Lib.hid (OP.out.keep hb)
      have OCa := Lib.hid (OCa.out.keep hb)
      have OCb := Lib.hid (OCb.out.keep hb)
      have KCa := Lib.hid (KCa.out.step hb)
      have KCb := Lib.hid (KCb.out.step hb)
      have OBa := Lib.hid (OBa.out.keep hb)
      have OBb := Lib.hid (OBb.out.keep hb)
      have KBa := Lib.hid (KBa.out.step hb)
      have KBb := Lib.hid (KBb.out.step hb)
      have B := Lib.hid (stepB B.out hb)
      clear hb
      rw [F5.out]
      obtain ⟨cc11_00, cc11_01, cc11_02, -, -, -⟩ := KA.out.all
      have ll11_0 := KA.out.lt
      obtain ⟨cc11_10, cc11_11, cc11_12, -, -, -⟩ := KFa.out.all
      have ll11_1 := KFa.out.lt
      obtain ⟨cc11_20, cc11_21, cc11_22, -, -, -⟩ := KFb.out.all
      have ll11_2 := KFb.out.lt
      obtain ⟨cc11_30, cc11_31, cc11_32, -, -, -⟩ := KTa.out.all
      have ll11_3 := KTa.out.lt
      obtain ⟨cc11_40, cc11_41, cc11_42, -, -, -⟩ := KTb.out.all
      have ll11_4 := KTb.out.lt
      obtain ⟨cc11_50, cc11_51, cc11_52, -, -, -⟩ := KX.out.all
      have ll11_5 := KX.out.lt
      obtain ⟨cc11_60, cc11_61, cc11_62, -, -, -⟩ := KP.out.all
      have ll11_6 := KP.out.lt
      obtain ⟨cc11_70, cc11_71, cc11_72, -, -, -⟩ := KCa.out.all
      have ll11_7 := KCa.out.lt
      obtain ⟨cc11_80, cc11_81, cc11_82, -, -, -⟩ := KCb.out.all
      have ll11_8 := KCb.out.lt
      obtain ⟨cc11_90, cc11_91, cc11_92, -, -, -⟩ := KBa.out.all
      have ll11_9 := KBa.out.lt
      obtain ⟨cc11_100, cc11_101, cc11_102, -, -, -⟩ := KBb.out.all
      have ll11_10 := KBb.out.lt
      go_wp2_with (fail)
      refine (lUnim eA.r2 eA.c2 qFb cFb eA.us _ OFb.out.rd nFb UN.out).mono ?_
      rintro e w9 ⟨rfl, hb⟩
      have OA := Lib.hid (OA.out.keep hb)
      have KA := Lib.hid (KA.out.step hb)
      have OFa := Lib.hid (OFa.out.keep hb)
      have OFb := Lib.hid (OFb.out.keep hb)
      have KFa := Lib.hid (KFa.out.step hb)
      have KFb := Lib.hid (KFb.out.step hb)
      have OTa := Lib.hid (OTa.out.keep hb)
      have OTb := Lib.hid (OTb.out.keep hb)
      have KTa := Lib.hid (KTa.out.step hb)
      have KTb := Lib.hid (KTb.out.step hb)
      have OX := Lib.hid (OX.out.keep hb)
      have KX := Lib.hid (KX.out.step hb)
      have KP := Lib.hid (KP.out.step hb)
      have OP := Lib.hid (OP.out.keep hb)
      have OCa := Lib.hid (OCa.out.keep hb)
      have OCb := Lib.hid (OCb.out.keep hb)
      have KCa := Lib.hid (KCa.out.step hb)
      have KCb := Lib.hid (KCb.out.step hb)
      have OBa := Lib.hid (OBa.out.keep hb)
      have OBb := Lib.hid (OBb.out.keep hb)
      have KBa := Lib.hid (KBa.out.step hb)
      have KBb := Lib.hid (KBb.out.step hb)
      have B := Lib.hid (stepB B.out hb)
      clear hb
      obtain ⟨cc12_00, cc12_01, cc12_02, -, -, -⟩ := KA.out.all
      have ll12_0 := KA.out.lt
      obtain ⟨cc12_10, cc12_11, cc12_12, -, -, -⟩ := KFa.out.all
      have ll12_1 := KFa.out.lt
      obtain ⟨cc12_20, cc12_21, cc12_22, -, -, -⟩ := KFb.out.all
      have ll12_2 := KFb.out.lt
      obtain ⟨cc12_30, cc12_31, cc12_32, -, -, -⟩ := KTa.out.all
      have ll12_3 := KTa.out.lt
      obtain ⟨cc12_40, cc12_41, cc12_42, -, -, -⟩ := KTb.out.all
      have ll12_4 := KTb.out.lt
      obtain ⟨cc12_50, cc12_51, cc12_52, -, -, -⟩ := KX.out.all
      have ll12_5 := KX.out.lt
      obtain ⟨cc12_60, cc12_61, cc12_62, -, -, -⟩ := KP.out.all
      have ll12_6 := KP.out.lt
      obtain ⟨cc12_70, cc12_71, cc12_72, -, -, -⟩ := KCa.out.all
      have ll12_7 := KCa.out.lt
      obtain ⟨cc12_80, cc12_81, cc12_82, -, -, -⟩ := KCb.out.all
      have ll12_8 := KCb.out.lt
      obtain ⟨cc12_90, cc12_91, cc12_92, -, -, -⟩ := KBa.out.all
      have ll12_9 := KBa.out.lt
      obtain ⟨cc12_100, cc12_101, cc12_102, -, -, -⟩ := KBb.out.all
      have ll12_10 := KBb.out.lt
      go_wp2_with (fail)
      refine (sameQ12 mX.r mX.c eA.r1 eA.c1 mX.zs eA.zs qX qFa qcX cFa _ EX.out.1 EX.out.2.1 EX.out.2.2 OX.out.rd OFa.out.rd nFa).mono ?_
      rintro e w10 ⟨rfl, hb⟩
      have OA := Lib.hid (OA.out.keep hb)
      have KA := Lib.hid (KA.out.step hb)
      have OFa := Lib.hid (OFa.out.keep hb)
      have OFb := Lib.hid (OFb.out.keep hb)
      have KFa := Lib.hid (KFa.out.step hb)
      have KFb := Lib.hid (KFb.out.step hb)
      have OTa := Lib.hid (OTa.out.keep hb)
      have OTb := Lib.hid (OTb.out.keep hb)
      have KTa := Lib.hid (KTa.out.step hb)
      have KTb := Lib.hid (KTb.out.step hb)
      have OX := Lib.hid (OX.out.keep hb)
      have KX := Lib.hid (KX.out.step hb)
      have KP := Lib.hid (KP.out.step hb)
      have OP := Lib.hid (OP.out.keep hb)
      have OCa := Lib.hid (OCa.out.keep hb)
      have OCb := Lib.hid (OCb.out.keep hb)
      have KCa := Lib.hid (KCa.out.step hb)
      have KCb := Lib.hid (KCb.out.step hb)
      have OBa := Lib.hid (OBa.out.keep hb)
      have OBb := Lib.hid (OBb.out.keep hb)
      have KBa := Lib.hid (KBa.out.step hb)
      have KBb := Lib.hid (KBb.out.step hb)
      have B := Lib.hid (stepB B.out hb)
      clear hb
      obtain ⟨cc13_00, cc13_01, cc13_02, -, -, -⟩ := KA.out.all
      have ll13_0 := KA.out.lt
      obtain ⟨cc13_10, cc13_11, cc13_12, -, -, -⟩ := KFa.out.all
      have ll13_1 := KFa.out.lt
      obtain ⟨cc13_20, cc13_21, cc13_22, -, -, -⟩ := KFb.out.all
      have ll13_2 := KFb.out.lt
      obtain ⟨cc13_30, cc13_31, cc13_32, -, -, -⟩ := KTa.out.all
      have ll13_3 := KTa.out.lt
      obtain ⟨cc13_40, cc13_41, cc13_42, -, -, -⟩ := KTb.out.all
      have ll13_4 := KTb.out.lt
      obtain ⟨cc13_50, cc13_51, cc13_52, -, -, -⟩ := KX.out.all
      have ll13_5 := KX.out.lt
      obtain ⟨cc13_60, cc13_61, cc13_62, -, -, -⟩ := KP.out.all
      have ll13_6 := KP.out.lt
      obtain ⟨cc13_70, cc13_71, cc13_72, -, -, -⟩ := KCa.out.all
      have ll13_7 := KCa.out.lt
      obtain ⟨cc13_80, cc13_81, cc13_82, -, -, -⟩ := KCb.out.all
      have ll13_8 := KCb.out.lt
      obtain ⟨cc13_90, cc13_91, cc13_92, -, -, -⟩ := KBa.out.all
      have ll13_9 := KBa.out.lt
      obtain ⟨cc13_100, cc13_101, cc13_102, -, -, -⟩ := KBb.out.all
      have ll13_10 := KBb.out.lt
      go_wp2_with (fail)
      refine (sameQ12 eC.r1 eC.c1 eA.r1 eA.c1 eC.zs eA.zs qCa qFa cCa cFa _ EC.out.1 EC.out.2.1 EC.out.2.2 OCa.out.rd OFa.out.rd nFa).mono ?_
      rintro e w11 ⟨rfl, hb⟩
      have OA := Lib.hid (OA.out.keep hb)
      have KA := Lib.hid (KA.out.step hb)
      have OFa := Lib.hid (OFa.out.keep hb)
      have OFb := Lib.hid (OFb.out.keep hb)
      have KFa := Lib.hid (KFa.out.step hb)
      have KFb := Lib.hid (KFb.out.step hb)
      have OTa := Lib.hid (OTa.out.keep hb)
      have OTb := Lib.hid (OTb.out.keep hb)
      have KTa := Lib.hid (KTa.out.step hb)
      have KTb := Lib.hid (KTb.out.step hb)
      have OX := Lib.hid (OX.out.keep hb)
      have KX := Lib.hid (KX.out.step hb)
      have KP := Lib.hid (KP.out.step hb)
      have OP := Lib.hid (OP.out.keep hb)
      have OCa := Lib.hid (OCa.out.keep hb)
      have OCb := Lib.hid (OCb.out.keep hb)
      have KCa := Lib.hid (KCa.out.step hb)
      have KCb := Lib.hid (KCb.out.step hb)
      have OBa := Lib.hid (OBa.out.keep hb)
      have OBb := Lib.hid (OBb.out.keep hb)
      have KBa := Lib.hid (KBa.out.step hb)
      have KBb := Lib.hid (KBb.out.step hb)
      have B := Lib.hid (stepB B.out hb)
      clear hb
      obtain ⟨cc14_00, cc14_01, cc14_02, -, -, -⟩ := KA.out.all
      have ll14_0 := KA.out.lt
      obtain ⟨cc14_10, cc14_11, cc14_12, -, -, -⟩ := KFa.out.all
      have ll14_1 := KFa.out.lt
      obtain ⟨cc14_20, cc14_21, cc14_22, -, -, -⟩ := KFb.out.all
      have ll14_2 := KFb.out.lt
      obtain ⟨cc14_30, cc14_31, cc14_32, -, -, -⟩ := KTa.out.all
      have ll14_3 := KTa.out.lt
      obtain ⟨cc14_40, cc14_41, cc14_42, -, -, -⟩ := KTb.out.all
      have ll14_4 := KTb.out.lt
      obtain ⟨cc14_50, cc14_51, cc14_52, -, -, -⟩ := KX.out.all
      have ll14_5 := KX.out.lt
      obtain ⟨cc14_60, cc14_61, cc14_62, -, -, -⟩ := KP.out.all
      have ll14_6 := KP.out.lt
      obtain ⟨cc14_70, cc14_71, cc14_72, -, -, -⟩ := KCa.out.all
      have ll14_7 := KCa.out.lt
      obtain ⟨cc14_80, cc14_81, cc14_82, -, -, -⟩ := KCb.out.all
      have ll14_8 := KCb.out.lt
      obtain ⟨cc14_90, cc14_91, cc14_92, -, -, -⟩ := KBa.out.all
      have ll14_9 := KBa.out.lt
      obtain ⟨cc14_100, cc14_101, cc14_102, -, -, -⟩ := KBb.out.all
      have ll14_10 := KBb.out.lt
      go_wp2_with (fail)
      refine (sameQ12 eB.r1 eB.c1 eA.r1 eA.c1 eB.zs eA.zs qBa qFa cBa cFa _ GB.out.1 GB.out.2.1 GB.out.2.2 OBa.out.rd OFa.out.rd nFa).mono ?_
      rintro e w12 ⟨rfl, hb⟩
      have OA := Lib.hid (OA.out.keep hb)
      have KA := Lib.hid (KA.out.step hb)
      have OFa := Lib.hid (OFa.out.keep hb)
      have OFb := Lib.hid (OFb.out.keep hb)
      have KFa := Lib.hid (KFa.out.step hb)
      have KFb := Lib.hid (KFb.out.step hb)
      have OTa := Lib.hid (OTa.out.keep hb)
      have OTb := Lib.hid (OTb.out.keep hb)
      have KTa := Lib.hid (KTa.out.step hb)
      have KTb := Lib.hid (KTb.out.step hb)
      have OX := Lib.hid (OX.out.keep hb)
      have KX := Lib.hid (KX.out.step hb)
      have KP := Lib.hid (KP.out.step hb)
      have OP := Lib.hid (OP.out.keep hb)
      have OCa := Lib.hid (OCa.out.keep hb)
      have OCb := Lib.hid (OCb.out.keep hb)
      have KCa := Lib.hid (KCa.out.step hb)
      have KCb := Lib.hid (KCb.out.step hb)
      have OBa := Lib.hid (OBa.out.keep hb)
      have OBb := Lib.hid (OBb.out.keep hb)
      have KBa := Lib.hid (KBa.out.step hb)
      have KBb := Lib.hid (KBb.out.step hb)
      have B := Lib.hid (stepB B.out hb)
      clear hb
      obtain ⟨cc15_00, cc15_01, cc15_02, -, -, -⟩ := KA.out.all
      have ll15_0 := KA.out.lt
      obtain ⟨cc15_10, cc15_11, cc15_12, -, -, -⟩ := KFa.out.all
      have ll15_1 := KFa.out.lt
      obtain ⟨cc15_20, cc15_21, cc15_22, -, -, -⟩ := KFb.out.all
      have ll15_2 := KFb.out.lt
      obtain ⟨cc15_30, cc15_31, cc15_32, -, -, -⟩ := KTa.out.all
      have ll15_3 := KTa.out.lt
      obtain ⟨cc15_40, cc15_41, cc15_42, -, -, -⟩ := KTb.out.all
      have ll15_4 := KTb.out.lt
      obtain ⟨cc15_50, cc15_51, cc15_52, -, -, -⟩ := KX.out.all
      have ll15_5 := KX.out.lt
      obtain ⟨cc15_60, cc15_61, cc15_62, -, -, -⟩ := KP.out.all
      have ll15_6 := KP.out.lt
      obtain ⟨cc15_70, cc15_71, cc15_72, -, -, -⟩ := KCa.out.all
      have ll15_7 := KCa.out.lt
      obtain ⟨cc15_80, cc15_81, cc15_82, -, -, -⟩ := KCb.out.all
      have ll15_8 := KCb.out.lt
      obtain ⟨cc15_90, cc15_91, cc15_92, -, -, -⟩ := KBa.out.all
      have ll15_9 := KBa.out.lt
      obtain ⟨cc15_100, cc15_101, cc15_102, -, -, -⟩ := KBb.out.all
      have ll15_10 := KBb.out.lt
      obtain ⟨cc16_00, cc16_01, cc16_02, -, -, -⟩ := KA.out.all
      have ll16_0 := KA.out.lt
      obtain ⟨cc16_10, cc16_11, cc16_12, -, -, -⟩ := KFa.out.all
      have ll16_1 := KFa.out.lt
      obtain ⟨cc16_20, cc16_21, cc16_22, -, -, -⟩ := KFb.out.all
      have ll16_2 := KFb.out.lt
      obtain ⟨cc16_30, cc16_31, cc16_32, -, -, -⟩ := KTa.out.all
      have ll16_3 := KTa.out.lt
      obtain ⟨cc16_40, cc16_41, cc16_42, -, -, -⟩ := KTb.out.all
      have ll16_4 := KTb.out.lt
      obtain ⟨cc16_50, cc16_51, cc16_52, -, -, -⟩ := KX.out.all
      have ll16_5 := KX.out.lt
      obtain ⟨cc16_60, cc16_61, cc16_62, -, -, -⟩ := KP.out.all
      have ll16_6 := KP.out.lt
      obtain ⟨cc16_70, cc16_71, cc16_72, -, -, -⟩ := KCa.out.all
      have ll16_7 := KCa.out.lt
      obtain ⟨cc16_80, cc16_81, cc16_82, -, -, -⟩ := KCb.out.all
      have ll16_8 := KCb.out.lt
      obtain ⟨cc16_90, cc16_91, cc16_92, -, -, -⟩ := KBa.out.all
      have ll16_9 := KBa.out.lt
      obtain ⟨cc16_100, cc16_101, cc16_102, -, -, -⟩ := KBb.out.all
      have ll16_10 := KBb.out.lt
      go_wp2_with (fail)
      go_ret
      exact ⟨rfl, B.out⟩
  · have hbig' : 1048576 < len0 := by omega
    clear hbig
    go_enter Try.func10, Try.ntmps10
    go_wp2_with (fail)
    refine (big_yes w a0 len0 cap0 hbig').mono ?_
    rintro e w1 ⟨rfl, rfl⟩
    go_wp2_with (fail)
    go_ret
    exact ⟨rfl, Below.refl _ _⟩

/-! ### The row's step -/
set_option maxRecDepth 100000 in
theorem lifted (os : Os) (started : os.Started) (H : Type) (enc : TypeId × Value → H) :
    ReturnsInHanded {} Try.checked os 10 .any (Rows.fnHermiteSpec.pre6 enc Try.prog Try.f10 Rows.fnHermiteRow.domain false) (Rows.fnHermiteSpec.post enc Try.prog Try.f10 false true false false) := by
  refine returnsInHanded_of_change (C := Try.checked) own started (by kernel_rfl) Try.func10
    (ChangeSpec.witness6 (enc := enc) (C := Try.checked) false ⟨#[], #[.slice none 0 0], []⟩ 8 (by kernel_rfl) (by kernel_rfl) (by kernel_rfl) (by kernel_rfl)) ?_
  intro W base args ds gs before hval0 hW hcnd _
  have hval : ∀ (j : Nat) t v, Try.f10.params[j]? = some t → args[j]? = some v → Value.okWide Try.prog W .any base t v := hval0
  have hW' := hW
  obtain ⟨p, q, hA0, hV, rfl, hfz, hnd⟩ := hW
  have hA : DataW.TrodAll enc Try.prog W 0 (fun _ => true) true Try.f10.params.toList args.toList ds p := hA0
  rw [Try.params10] at hA hval
  obtain ⟨v0, vs0, d0, ds0, p0, q0, hargs, rfl, rfl, h0, r0⟩ := trodAll_cons hA
  obtain ⟨rfl, rfl, rfl⟩ := trodAll_nil r0
  obtain rfl : args = #[v0] := by cases args; simp_all
  obtain ⟨rfl, rfl⟩ := trodVars_none hV
  have k0 := h0
  have lt0 : ∀ x ∈ p0, x.block < W.heap.size := by obtain ⟨m, hm⟩ := k0; exact DataW.trod_lt m _ _ _ hm
  obtain ⟨a0, len0, cap0, rfl⟩ := okWide_slice Try.underlying41 (hval 0 41 v0 rfl rfl)
  obtain ⟨fuel0, hf0⟩ := h0
  obtain ⟨z0, w0⟩ : ∃ zs, IsRow .u8 W a0 len0 cap0 zs := isRow_of Try.underlying41 Try.underlying5 (by kernel_rfl) (by simpa [Value.cells] using hf0)
  clear hA0 hval0
  refine (walk a0 len0 cap0 z0 W w0).mono fun e W' ⟨he, bel⟩ => ?_
  subst he
  exact ⟨_, rfl, _, _, _, [], _, [], hW', trodAll_mk1 (shut_bool Try.underlying4 _), (trodAll_cons_mk (Below.trod laidOut (by kernel_rfl) (of_decide_eq_true (by kernel_rfl)) k0 bel lt0) trodAll_mk0), rfl, bel.frame _, fun h => by cases h⟩

theorem over : Rows.fnHermiteRow.holds Try.pinned (OpenSpec.ofChange Rows.fnHermiteSpec) :=
  OpenClaim.holds_of_wide 10 Try.f10 rfl rfl rfl rfl rfl rfl rfl ⟨rfl, rfl, rfl, rfl, rfl⟩ rfl rfl rfl rfl rfl (by kernel_rfl) Try.func10 (by kernel_rfl)
    (of_decide_eq_true (by kernel_rfl)) (by unfold Func.isWrapper; first | (rw [if_pos (by decide +kernel)]; kernel_rfl) | (rw [if_neg (by decide +kernel)]; exact ⟨rfl, rfl⟩))
    (fun os started H enc _ => lifted os started H enc)

/-- ████ THE STATEMENT ████ -/
theorem proved : Rows.FnHermiteSaid := over
#print axioms proved
end Go.Proofs.Ytpelnfenfeoeeaa.fnHermite
