/-
  Proved: for every code, the law FnRanks returns true: The Hermite form, the echelon form and the Smith form have as many rows that are not zeros, and turned over as well, wherever they are found.
  Conditions: none beyond the row's own (the argument reads as data).
-/
import Derived.Test.YtpelnfenfeoeeaaRows
import Derived.ChangeOld
import Derived.Below
import Derived.Deep.RegionHeld3
import Derived.Deep.DeepCutAuto
import Derived.WalkKit
import Derived.ProofKit
import Derived.OpenShut
import Derived.ShutString
import Derived.Carry
import Derived.Lib.SmallJoins
import Derived.Test.YtpelnfenfeoeeaaPk34
import Derived.Test.YtpelnfenfeoeeaaPk41
import Derived.Test.YtpelnfenfeoeeaaPk42
import Derived.Test.YtpelnfenfeoeeaaPk43
import Derived.Test.YtpelnfenfeoeeaaPk45

namespace Go.Proofs.Ytpelnfenfeoeeaa.fnRanks
open Go.ChangeShapes Go.WideShapes Go.ChangeAt Go.RowKit
open Go.ChangeMaps (open_string shut_string)
set_option linter.unusedVariables false

theorem own : ownKnob Try.prog.godebug = none := by kernel_rfl
theorem laidOut : laidOutB Try.prog = true := by kernel_rfl

/-- What the walk is told of a slice of integers that came in: it is nil; or it leads to a row of 'cap' cells, the numbers 'zs' (the first 'len' are its elements), each fitting its kind. -/
def IsRow (k : IntKind) (w : World) (a : Option Addr) (len cap : Nat) (zs : List Int) : Prop :=
  (a = none ∧ len = 0 ∧ cap = 0 ∧ zs = []) ∨
  ∃ x, a = some x ∧ len ≤ cap ∧ cap ≤ maxLen ∧ zs.length = cap ∧ (∀ i, i < zs.length → w.cell? (x.add i) = some (.int k (zs.getD i 0))) ∧ ∀ n ∈ zs, (Lit.int k n).wf = true
theorem isRow_of {H : Type} {enc : TypeId × Value → H} {P : Program} {W : World} {base : Nat} {held : Bool} {t e : TypeId} {k : IntKind} {a : Option Addr} {len cap fuel : Nat} {x : DataW H × List MemPlace}
    (ht : P.underlying t = some (.slice e)) (he : P.underlying e = some (.int k)) (hc : P.cellsOf e = 1) (hf : DataW.trod enc P W base (fun _ => true) held fuel t [.slice a len cap] = some x) : ∃ zs, IsRow k W a len cap zs := by
  rcases open_ints ht he hc hf with ⟨hcs, _⟩ | ⟨x, l, c, zs, hcs, _, hl, hm, hz, _, hcell, hwz⟩
  · simp at hcs
    obtain ⟨rfl, rfl, rfl⟩ := hcs
    exact ⟨[], .inl ⟨rfl, rfl, rfl, rfl⟩⟩
  · simp at hcs
    obtain ⟨rfl, rfl, rfl⟩ := hcs
    exact ⟨zs, .inr ⟨_, rfl, hl, hm, by simpa using hz, hcell, hwz⟩⟩
theorem _root_.Go.Proofs.Ytpelnfenfeoeeaa.Own.old {B : Nat} {w : World} {v : Value} {zs : List Int} (h : Own B w v zs) (o : Obj) : Own B (w.alloc o) v zs := h.keep ((Below.refl _ _).alloc (Nat.le_refl _) o)
theorem _root_.Go.Proofs.Ytpelnfenfeoeeaa.Own.rd {B : Nat} {w : World} {a : Option Addr} {n cap : Nat} {zs : List Int} (h : Own B w (.slice a n cap) zs) : Rd w a zs := by
  obtain ⟨a', c', e, hr, -⟩ := h.form
  injection e with e1 e2 e3
  rw [e1]; exact hr
theorem own_form9 {B : Nat} {w : World} {v : Value} {zs : List Int} (h : Own B w v zs) : ∃ (a : Option Addr) (cap : Nat), v = .slice a zs.length cap ∧ Rd w a zs ∧ zs.length ≤ 16777216 ∧ Spot a ∧ zs.length ≤ cap ∧ (a = none → cap = 0) := by
  rcases h with ⟨rfl, rfl⟩ | ⟨g, cap, rfl, _, hi, hl, hc⟩
  · exact ⟨none, 0, rfl, Rd.nil _ _, by simp, .inl rfl, Nat.le_refl _, fun _ => rfl⟩
  · exact ⟨_, _, rfl, hi.rd, hc, .inr ⟨g, 0, rfl⟩, hl, fun h => by cases h⟩
theorem codeIn_of_row {w : World} {a : Option Addr} {len cap : Nat} {zs : List Int} (h : IsRow .u8 w a len cap zs) : CodeIn w a len := by
  rcases h with ⟨rfl, rfl, rfl, rfl⟩ | ⟨x, rfl, hl, hm, hz, hcell, hwf⟩
  · exact codeIn_none w
  · exact codeIn_some hl hm hz hcell hwf
set_option maxRecDepth 100000 in
set_option maxHeartbeats 16000000 in

theorem walk (a0 : Option Addr) (len0 cap0 : Nat) (z0 : List Int) (w : World) (w0 : IsRow .u8 w a0 len0 cap0 z0) :
    Calls Try.prog 7 #[.slice a0 len0 cap0] w fun e w' => e = .returned (.bool true) ∧ Below w.heap.size w w' := by
  have hc : CodeIn w a0 len0 := codeIn_of_row w0
  have hl := hc.1
  have HC := Lib.hid hc
  clear w0 hc
  unfold maxLen at hl
  by_cases hbig : len0 ≤ 1048576
  · go_enter Try.func7, Try.ntmps7
    go_wp2_with (fail)
    refine (big_no w a0 len0 cap0 hbig).mono ?_
    rintro e w1 ⟨rfl, rfl⟩
    go_wp2_with (fail)
    refine (drawBas w a0 len0 cap0 HC.out).mono ?_
    rintro e w1 ⟨r, c, q1, qc1, xs, rfl, o1, l1, hb⟩
    have B := Lib.hid hb
    have SP := Lib.hid o1.spot2
    have OA := Lib.hid (o1.le (Nat.zero_le _))
    have n1 : xs.length ≤ 16777216 := by omega
    clear hb o1
    go_wp2_with (fail)
    obtain ⟨mB, hmB⟩ : ∃ m, basR r c xs = m := ⟨_, rfl⟩
    have HmB := Lib.hid hmB
    clear hmB
    refine (iBasis r c q1 qc1 xs _ (OA.out.old _).rd n1 SP.out).mono ?_
    rintro e w2 ⟨vB, rfl, own, hb⟩
    rw [HmB.out] at own ⊢
    obtain ⟨qB, qcB, rfl, -, nB, sB, lB, zB⟩ := own_form9 own
    have SPB := Lib.hid sB
    clear sB
    have OA := Lib.hid ((OA.out.old _).keep hb)
    have KA : Hid (Blk3 w2 w1.heap.size 26 (.int .i64 (r)) (.int .i64 (c)) (.slice q1 xs.length qc1)) := (Blk3.at_ _ _ _ _ rfl).step hb
    have B := Lib.hid (stepB (B.out.alloc B.out.size _) hb)
    clear hb
    have OB := Lib.hid (own.le (Nat.zero_le _))
    clear own
    obtain ⟨cc1_00, cc1_01, cc1_02, -, -, -⟩ := KA.out.all
    have ll1_0 := KA.out.lt
    go_wp2_with (fail)
    refine (sBasis r c q1 qc1 xs _ (OA.out.old _).rd n1 SP.out).mono ?_
    rintro e w3 ⟨vS, rfl, own, hb⟩
    rw [HmB.out] at own ⊢
    obtain ⟨qS, qcS, rfl, -, nS, sS, lS, zS⟩ := own_form9 own
    have SPS := Lib.hid sS
    clear sS
    have OA := Lib.hid ((OA.out.old _).keep hb)
    have KA := Lib.hid ((KA.out.old _).step hb)
    have OB := Lib.hid ((OB.out.old _).keep hb)
    have KB : Hid (Blk3 w3 w2.heap.size 26 (.int .i64 (mB.r)) (.int .i64 (mB.c)) (.slice qB mB.zs.length qcB)) := (Blk3.at_ _ _ _ _ rfl).step hb
    have B := Lib.hid (stepB (B.out.alloc B.out.size _) hb)
    clear hb
    have OS := Lib.hid (own.le (Nat.zero_le _))
    clear own
    obtain ⟨cc2_00, cc2_01, cc2_02, -, -, -⟩ := KA.out.all
    have ll2_0 := KA.out.lt
    obtain ⟨cc2_10, cc2_11, cc2_12, -, -, -⟩ := KB.out.all
    have ll2_1 := KB.out.lt
    go_wp2_with (fail)
    obtain ⟨nk, hnk⟩ : ∃ m, ((echR r c xs).pv.length : Int) = m := ⟨_, rfl⟩
    have Hnk := Lib.hid hnk
    clear hnk
    obtain ⟨ok, hok⟩ : ∃ m, (echR r c xs).ok = m := ⟨_, rfl⟩
    have Hok := Lib.hid hok
    clear hok
    refine (iRankOf r c q1 qc1 xs _ (OA.out.old _).rd n1).mono ?_
    rintro e w4 ⟨rfl, hb⟩
    have OA := Lib.hid ((OA.out.old _).keep hb)
    have KA := Lib.hid ((KA.out.old _).step hb)
    have OB := Lib.hid ((OB.out.old _).keep hb)
    have KB := Lib.hid ((KB.out.old _).step hb)
    have OS := Lib.hid ((OS.out.old _).keep hb)
    have KS : Hid (Blk3 w4 w3.heap.size 26 (.int .i64 (mB.r)) (.int .i64 (mB.c)) (.slice qS mB.zs.length qcS)) := (Blk3.at_ _ _ _ _ rfl).step hb
    have B := Lib.hid (stepB (B.out.alloc B.out.size _) hb)
    clear hb
    rw [Hnk.out, Hok.out]
    obtain ⟨cc3_00, cc3_01, cc3_02, -, -, -⟩ := KA.out.all
    have ll3_0 := KA.out.lt
    obtain ⟨cc3_10, cc3_11, cc3_12, -, -, -⟩ := KB.out.all
    have ll3_1 := KB.out.lt
    obtain ⟨cc3_20, cc3_21, cc3_22, -, -, -⟩ := KS.out.all
    have ll3_2 := KS.out.lt
    go_wp2_with (fail)
    obtain ⟨fl, hfl⟩ : ∃ m, (fcX r c xs).1 = m := ⟨_, rfl⟩
    have Hfl := Lib.hid hfl
    clear hfl
    obtain ⟨fk, hfk⟩ : ∃ m, (fcX r c xs).2 = m := ⟨_, rfl⟩
    have Hfk := Lib.hid hfk
    clear hfk
    refine (iFactors r c q1 qc1 xs _ OA.out.rd n1).mono ?_
    rintro e w5 ⟨vF, rfl, own, hb⟩
    rw [Hfl.out] at own
    rw [Hfk.out]
    obtain ⟨qF, qcF, rfl, -, nF, -, -, -⟩ := own_form9 own
    have OA := Lib.hid (OA.out.keep hb)
    have KA := Lib.hid (KA.out.step hb)
    have OB := Lib.hid (OB.out.keep hb)
    have KB := Lib.hid (KB.out.step hb)
    have OS := Lib.hid (OS.out.keep hb)
    have KS := Lib.hid (KS.out.step hb)
    have B := Lib.hid (stepB B.out hb)
    clear hb
    have OF := Lib.hid (own.le (Nat.zero_le _))
    clear own
    obtain ⟨cc4_00, cc4_01, cc4_02, -, -, -⟩ := KA.out.all
    have ll4_0 := KA.out.lt
    obtain ⟨cc4_10, cc4_11, cc4_12, -, -, -⟩ := KB.out.all
    have ll4_1 := KB.out.lt
    obtain ⟨cc4_20, cc4_21, cc4_22, -, -, -⟩ := KS.out.all
    have ll4_2 := KS.out.lt
    go_wp2_with (fail)
    obtain ⟨mT, hmT⟩ : ∃ m, turnM r c xs = m := ⟨_, rfl⟩
    have HmT := Lib.hid hmT
    clear hmT
    refine (iTransp r c q1 qc1 xs _ OA.out.rd n1).mono ?_
    rintro e w6 ⟨vT, rfl, own, hb⟩
    rw [HmT.out] at own ⊢
    obtain ⟨qT, qcT, rfl, -, nT, sT, lT, zT⟩ := own_form9 own
    have SPT := Lib.hid sT
    clear sT
    have OA := Lib.hid (OA.out.keep hb)
    have KA := Lib.hid (KA.out.step hb)
    have OB := Lib.hid (OB.out.keep hb)
    have KB := Lib.hid (KB.out.step hb)
    have OS := Lib.hid (OS.out.keep hb)
    have KS := Lib.hid (KS.out.step hb)
    have OF := Lib.hid (OF.out.keep hb)
    have B := Lib.hid (stepB B.out hb)
    clear hb
    have OT := Lib.hid (own.le (Nat.zero_le _))
    clear own
    obtain ⟨cc5_00, cc5_01, cc5_02, -, -, -⟩ := KA.out.all
    have ll5_0 := KA.out.lt
    obtain ⟨cc5_10, cc5_11, cc5_12, -, -, -⟩ := KB.out.all
    have ll5_1 := KB.out.lt
    obtain ⟨cc5_20, cc5_21, cc5_22, -, -, -⟩ := KS.out.all
    have ll5_2 := KS.out.lt
    go_wp2_with (fail)
    obtain ⟨mC, hmC⟩ : ∃ m, basR mT.r mT.c mT.zs = m := ⟨_, rfl⟩
    have HmC := Lib.hid hmC
    clear hmC
    refine (iBasis mT.r mT.c qT qcT mT.zs _ (OT.out.old _).rd nT SPT.out).mono ?_
    rintro e w7 ⟨vC, rfl, own, hb⟩
    rw [HmC.out] at own ⊢
    obtain ⟨qC, qcC, rfl, -, nC, sC, lC, zC⟩ := own_form9 own
    have SPC := Lib.hid sC
    clear sC
    have OA := Lib.hid ((OA.out.old _).keep hb)
    have KA := Lib.hid ((KA.out.old _).step hb)
    have OB := Lib.hid ((OB.out.old _).keep hb)
    have KB := Lib.hid ((KB.out.old _).step hb)
    have OS := Lib.hid ((OS.out.old _).keep hb)
    have KS := Lib.hid ((KS.out.old _).step hb)
    have OF := Lib.hid ((OF.out.old _).keep hb)
    have OT := Lib.hid ((OT.out.old _).keep hb)
    have KT : Hid (Blk3 w7 w6.heap.size 26 (.int .i64 (mT.r)) (.int .i64 (mT.c)) (.slice qT mT.zs.length qcT)) := (Blk3.at_ _ _ _ _ rfl).step hb
    have B := Lib.hid (stepB (B.out.alloc B.out.size _) hb)
    clear hb
    have OC := Lib.hid (own.le (Nat.zero_le _))
    clear own
    obtain ⟨cc6_00, cc6_01, cc6_02, -, -, -⟩ := KA.out.all
    have ll6_0 := KA.out.lt
    obtain ⟨cc6_10, cc6_11, cc6_12, -, -, -⟩ := KB.out.all
    have ll6_1 := KB.out.lt
    obtain ⟨cc6_20, cc6_21, cc6_22, -, -, -⟩ := KS.out.all
    have ll6_2 := KS.out.lt
    obtain ⟨cc6_30, cc6_31, cc6_32, -, -, -⟩ := KT.out.all
    have ll6_3 := KT.out.lt
    rcases Bool.eq_false_or_eq_true mB.ok with hone | hone
    rotate_left
    · rw [hone]
      rcases Bool.eq_false_or_eq_true ok with htwo | htwo
      rotate_left
      · rw [htwo]
        rcases Bool.eq_false_or_eq_true fk with hthree | hthree
        rotate_left
        · rw [hthree]
          rcases Bool.eq_false_or_eq_true mC.ok with hfour | hfour
          rotate_left
          · rw [hfour]
            obtain ⟨cc7_00, cc7_01, cc7_02, -, -, -⟩ := KA.out.all
            have ll7_0 := KA.out.lt
            obtain ⟨cc7_10, cc7_11, cc7_12, -, -, -⟩ := KB.out.all
            have ll7_1 := KB.out.lt
            obtain ⟨cc7_20, cc7_21, cc7_22, -, -, -⟩ := KS.out.all
            have ll7_2 := KS.out.lt
            obtain ⟨cc7_30, cc7_31, cc7_32, -, -, -⟩ := KT.out.all
            have ll7_3 := KT.out.lt
            go_wp2_with (fail)
            go_ret
            exact ⟨rfl, (B.out.alloc B.out.size _)⟩
          rw [hfour]
          obtain ⟨cc7_00, cc7_01, cc7_02, -, -, -⟩ := KA.out.all
          have ll7_0 := KA.out.lt
          obtain ⟨cc7_10, cc7_11, cc7_12, -, -, -⟩ := KB.out.all
          have ll7_1 := KB.out.lt
          obtain ⟨cc7_20, cc7_21, cc7_22, -, -, -⟩ := KS.out.all
          have ll7_2 := KS.out.lt
          obtain ⟨cc7_30, cc7_31, cc7_32, -, -, -⟩ := KT.out.all
          have ll7_3 := KT.out.lt
          go_wp2_with (fail)
          go_ret
          exact ⟨rfl, (B.out.alloc B.out.size _)⟩
        rw [hthree]
        rcases Bool.eq_false_or_eq_true mC.ok with hfour | hfour
        rotate_left
        · rw [hfour]
          obtain ⟨cc7_00, cc7_01, cc7_02, -, -, -⟩ := KA.out.all
          have ll7_0 := KA.out.lt
          obtain ⟨cc7_10, cc7_11, cc7_12, -, -, -⟩ := KB.out.all
          have ll7_1 := KB.out.lt
          obtain ⟨cc7_20, cc7_21, cc7_22, -, -, -⟩ := KS.out.all
          have ll7_2 := KS.out.lt
          obtain ⟨cc7_30, cc7_31, cc7_32, -, -, -⟩ := KT.out.all
          have ll7_3 := KT.out.lt
          go_wp2_with (fail)
          go_ret
          exact ⟨rfl, (B.out.alloc B.out.size _)⟩
        rw [hfour]
        obtain ⟨cc7_00, cc7_01, cc7_02, -, -, -⟩ := KA.out.all
        have ll7_0 := KA.out.lt
        obtain ⟨cc7_10, cc7_11, cc7_12, -, -, -⟩ := KB.out.all
        have ll7_1 := KB.out.lt
        obtain ⟨cc7_20, cc7_21, cc7_22, -, -, -⟩ := KS.out.all
        have ll7_2 := KS.out.lt
        obtain ⟨cc7_30, cc7_31, cc7_32, -, -, -⟩ := KT.out.all
        have ll7_3 := KT.out.lt
        go_wp2_with (fail)
        go_ret
        exact ⟨rfl, (B.out.alloc B.out.size _)⟩
      rw [htwo]
      rcases Bool.eq_false_or_eq_true fk with hthree | hthree
      rotate_left
      · rw [hthree]
        rcases Bool.eq_false_or_eq_true mC.ok with hfour | hfour
        rotate_left
        · rw [hfour]
          obtain ⟨cc7_00, cc7_01, cc7_02, -, -, -⟩ := KA.out.all
          have ll7_0 := KA.out.lt
          obtain ⟨cc7_10, cc7_11, cc7_12, -, -, -⟩ := KB.out.all
          have ll7_1 := KB.out.lt
          obtain ⟨cc7_20, cc7_21, cc7_22, -, -, -⟩ := KS.out.all
          have ll7_2 := KS.out.lt
          obtain ⟨cc7_30, cc7_31, cc7_32, -, -, -⟩ := KT.out.all
          have ll7_3 := KT.out.lt
          go_wp2_with (fail)
          go_ret
          exact ⟨rfl, (B.out.alloc B.out.size _)⟩
        rw [hfour]
        obtain ⟨cc7_00, cc7_01, cc7_02, -, -, -⟩ := KA.out.all
        have ll7_0 := KA.out.lt
        obtain ⟨cc7_10, cc7_11, cc7_12, -, -, -⟩ := KB.out.all
        have ll7_1 := KB.out.lt
        obtain ⟨cc7_20, cc7_21, cc7_22, -, -, -⟩ := KS.out.all
        have ll7_2 := KS.out.lt
        obtain ⟨cc7_30, cc7_31, cc7_32, -, -, -⟩ := KT.out.all
        have ll7_3 := KT.out.lt
        go_wp2_with (fail)
        go_ret
        exact ⟨rfl, (B.out.alloc B.out.size _)⟩
      rw [hthree]
      rcases Bool.eq_false_or_eq_true mC.ok with hfour | hfour
      rotate_left
      · rw [hfour]
        have g2 : ((fl.length : Int) == nk) = true := by have := fac_rank (by rw [Hfk.out]; exact hthree) (by rw [Hok.out]; exact htwo); rw [Hfl.out] at this; have h9 := Hnk.out; rw [← this] at h9; simpa using h9
        obtain ⟨cc7_00, cc7_01, cc7_02, -, -, -⟩ := KA.out.all
        have ll7_0 := KA.out.lt
        obtain ⟨cc7_10, cc7_11, cc7_12, -, -, -⟩ := KB.out.all
        have ll7_1 := KB.out.lt
        obtain ⟨cc7_20, cc7_21, cc7_22, -, -, -⟩ := KS.out.all
        have ll7_2 := KS.out.lt
        obtain ⟨cc7_30, cc7_31, cc7_32, -, -, -⟩ := KT.out.all
        have ll7_3 := KT.out.lt
        go_wp2_with (fail)
        go_ret
        exact ⟨rfl, (B.out.alloc B.out.size _)⟩
      rw [hfour]
      have g2 : ((fl.length : Int) == nk) = true := by have := fac_rank (by rw [Hfk.out]; exact hthree) (by rw [Hok.out]; exact htwo); rw [Hfl.out] at this; have h9 := Hnk.out; rw [← this] at h9; simpa using h9
      obtain ⟨cc7_00, cc7_01, cc7_02, -, -, -⟩ := KA.out.all
      have ll7_0 := KA.out.lt
      obtain ⟨cc7_10, cc7_11, cc7_12, -, -, -⟩ := KB.out.all
      have ll7_1 := KB.out.lt
      obtain ⟨cc7_20, cc7_21, cc7_22, -, -, -⟩ := KS.out.all
      have ll7_2 := KS.out.lt
      obtain ⟨cc7_30, cc7_31, cc7_32, -, -, -⟩ := KT.out.all
      have ll7_3 := KT.out.lt
      go_wp2_with (fail)
      go_ret
      exact ⟨rfl, (B.out.alloc B.out.size _)⟩
    rw [hone]
    rcases Bool.eq_false_or_eq_true ok with htwo | htwo
    rotate_left
    · rw [htwo]
      rcases Bool.eq_false_or_eq_true fk with hthree | hthree
      rotate_left
      · rw [hthree]
        rcases Bool.eq_false_or_eq_true mC.ok with hfour | hfour
        rotate_left
        · rw [hfour]
          obtain ⟨cc7_00, cc7_01, cc7_02, -, -, -⟩ := KA.out.all
          have ll7_0 := KA.out.lt
          obtain ⟨cc7_10, cc7_11, cc7_12, -, -, -⟩ := KB.out.all
          have ll7_1 := KB.out.lt
          obtain ⟨cc7_20, cc7_21, cc7_22, -, -, -⟩ := KS.out.all
          have ll7_2 := KS.out.lt
          obtain ⟨cc7_30, cc7_31, cc7_32, -, -, -⟩ := KT.out.all
          have ll7_3 := KT.out.lt
          go_wp2_with (fail)
          go_ret
          exact ⟨rfl, (B.out.alloc B.out.size _)⟩
        rw [hfour]
        have g3 : (mC.r == mB.r) = true := by have := bas_turn (by rw [HmB.out]; exact hone) HmT.out (by rw [HmC.out]; exact hfour); rw [HmB.out, HmC.out] at this; simpa using this
        obtain ⟨cc7_00, cc7_01, cc7_02, -, -, -⟩ := KA.out.all
        have ll7_0 := KA.out.lt
        obtain ⟨cc7_10, cc7_11, cc7_12, -, -, -⟩ := KB.out.all
        have ll7_1 := KB.out.lt
        obtain ⟨cc7_20, cc7_21, cc7_22, -, -, -⟩ := KS.out.all
        have ll7_2 := KS.out.lt
        obtain ⟨cc7_30, cc7_31, cc7_32, -, -, -⟩ := KT.out.all
        have ll7_3 := KT.out.lt
        go_wp2_with (fail)
        go_ret
        exact ⟨rfl, (B.out.alloc B.out.size _)⟩
      rw [hthree]
      rcases Bool.eq_false_or_eq_true mC.ok with hfour | hfour
      rotate_left
      · rw [hfour]
        obtain ⟨cc7_00, cc7_01, cc7_02, -, -, -⟩ := KA.out.all
        have ll7_0 := KA.out.lt
        obtain ⟨cc7_10, cc7_11, cc7_12, -, -, -⟩ := KB.out.all
        have ll7_1 := KB.out.lt
        obtain ⟨cc7_20, cc7_21, cc7_22, -, -, -⟩ := KS.out.all
        have ll7_2 := KS.out.lt
        obtain ⟨cc7_30, cc7_31, cc7_32, -, -, -⟩ := KT.out.all
        have ll7_3 := KT.out.lt
        go_wp2_with (fail)
        go_ret
        exact ⟨rfl, (B.out.alloc B.out.size _)⟩
      rw [hfour]
      have g3 : (mC.r == mB.r) = true := by have := bas_turn (by rw [HmB.out]; exact hone) HmT.out (by rw [HmC.out]; exact hfour); rw [HmB.out, HmC.out] at this; simpa using this
      obtain ⟨cc7_00, cc7_01, cc7_02, -, -, -⟩ := KA.out.all
      have ll7_0 := KA.out.lt
      obtain ⟨cc7_10, cc7_11, cc7_12, -, -, -⟩ := KB.out.all
      have ll7_1 := KB.out.lt
      obtain ⟨cc7_20, cc7_21, cc7_22, -, -, -⟩ := KS.out.all
      have ll7_2 := KS.out.lt
      obtain ⟨cc7_30, cc7_31, cc7_32, -, -, -⟩ := KT.out.all
      have ll7_3 := KT.out.lt
      go_wp2_with (fail)
      go_ret
      exact ⟨rfl, (B.out.alloc B.out.size _)⟩
    rw [htwo]
    rcases Bool.eq_false_or_eq_true fk with hthree | hthree
    rotate_left
    · rw [hthree]
      rcases Bool.eq_false_or_eq_true mC.ok with hfour | hfour
      rotate_left
      · rw [hfour]
        have g1 : (mB.r == nk) = true := by have := bas_rank (by rw [HmB.out]; exact hone) (by rw [Hok.out]; exact htwo); rw [HmB.out, Hnk.out] at this; simpa using this
        obtain ⟨cc7_00, cc7_01, cc7_02, -, -, -⟩ := KA.out.all
        have ll7_0 := KA.out.lt
        obtain ⟨cc7_10, cc7_11, cc7_12, -, -, -⟩ := KB.out.all
        have ll7_1 := KB.out.lt
        obtain ⟨cc7_20, cc7_21, cc7_22, -, -, -⟩ := KS.out.all
        have ll7_2 := KS.out.lt
        obtain ⟨cc7_30, cc7_31, cc7_32, -, -, -⟩ := KT.out.all
        have ll7_3 := KT.out.lt
        go_wp2_with (fail)
        go_ret
        exact ⟨rfl, (B.out.alloc B.out.size _)⟩
      rw [hfour]
      have g1 : (mB.r == nk) = true := by have := bas_rank (by rw [HmB.out]; exact hone) (by rw [Hok.out]; exact htwo); rw [HmB.out, Hnk.out] at this; simpa using this
      have g3 : (mC.r == mB.r) = true := by have := bas_turn (by rw [HmB.out]; exact hone) HmT.out (by rw [HmC.out]; exact hfour); rw [HmB.out, HmC.out] at this; simpa using this
      obtain ⟨cc7_00, cc7_01, cc7_02, -, -, -⟩ := KA.out.all
      have ll7_0 := KA.out.lt
      obtain ⟨cc7_10, cc7_11, cc7_12, -, -, -⟩ := KB.out.all
      have ll7_1 := KB.out.lt
      obtain ⟨cc7_20, cc7_21, cc7_22, -, -, -⟩ := KS.out.all
      have ll7_2 := KS.out.lt
      obtain ⟨cc7_30, cc7_31, cc7_32, -, -, -⟩ := KT.out.all
      have ll7_3 := KT.out.lt
      go_wp2_with (fail)
      go_ret
      exact ⟨rfl, (B.out.alloc B.out.size _)⟩
    rw [hthree]
    rcases Bool.eq_false_or_eq_true mC.ok with hfour | hfour
    rotate_left
    · rw [hfour]
      have g1 : (mB.r == nk) = true := by have := bas_rank (by rw [HmB.out]; exact hone) (by rw [Hok.out]; exact htwo); rw [HmB.out, Hnk.out] at this; simpa using this
      have g2 : ((fl.length : Int) == nk) = true := by have := fac_rank (by rw [Hfk.out]; exact hthree) (by rw [Hok.out]; exact htwo); rw [Hfl.out] at this; have h9 := Hnk.out; rw [← this] at h9; simpa using h9
      obtain ⟨cc7_00, cc7_01, cc7_02, -, -, -⟩ := KA.out.all
      have ll7_0 := KA.out.lt
      obtain ⟨cc7_10, cc7_11, cc7_12, -, -, -⟩ := KB.out.all
      have ll7_1 := KB.out.lt
      obtain ⟨cc7_20, cc7_21, cc7_22, -, -, -⟩ := KS.out.all
      have ll7_2 := KS.out.lt
      obtain ⟨cc7_30, cc7_31, cc7_32, -, -, -⟩ := KT.out.all
      have ll7_3 := KT.out.lt
      go_wp2_with (fail)
      go_ret
      exact ⟨rfl, (B.out.alloc B.out.size _)⟩
    rw [hfour]
    have g1 : (mB.r == nk) = true := by have := bas_rank (by rw [HmB.out]; exact hone) (by rw [Hok.out]; exact htwo); rw [HmB.out, Hnk.out] at this; simpa using this
    have g2 : ((fl.length : Int) == nk) = true := by have := fac_rank (by rw [Hfk.out]; exact hthree) (by rw [Hok.out]; exact htwo); rw [Hfl.out] at this; have h9 := Hnk.out; rw [← this] at h9; simpa using h9
    have g3 : (mC.r == mB.r) = true := by have := bas_turn (by rw [HmB.out]; exact hone) HmT.out (by rw [HmC.out]; exact hfour); rw [HmB.out, HmC.out] at this; simpa using this
    obtain ⟨cc7_00, cc7_01, cc7_02, -, -, -⟩ := KA.out.all
    have ll7_0 := KA.out.lt
    obtain ⟨cc7_10, cc7_11, cc7_12, -, -, -⟩ := KB.out.all
    have ll7_1 := KB.out.lt
    obtain ⟨cc7_20, cc7_21, cc7_22, -, -, -⟩ := KS.out.all
    have ll7_2 := KS.out.lt
    obtain ⟨cc7_30, cc7_31, cc7_32, -, -, -⟩ := KT.out.all
    have ll7_3 := KT.out.lt
    go_wp2_with (fail)
    go_ret
    exact ⟨rfl, (B.out.alloc B.out.size _)⟩
  · have hbig' : 1048576 < len0 := by omega
    clear hbig
    go_enter Try.func7, Try.ntmps7
    go_wp2_with (fail)
    refine (big_yes w a0 len0 cap0 hbig').mono ?_
    rintro e w1 ⟨rfl, rfl⟩
    go_wp2_with (fail)
    go_ret
    exact ⟨rfl, Below.refl _ _⟩

/-! ### The row's step -/
set_option maxRecDepth 100000 in
theorem lifted (os : Os) (started : os.Started) (H : Type) (enc : TypeId × Value → H) :
    ReturnsInHanded {} Try.checked os 7 .any (Rows.fnRanksSpec.pre6 enc Try.prog Try.f7 Rows.fnRanksRow.domain false) (Rows.fnRanksSpec.post enc Try.prog Try.f7 false true false false) := by
  refine returnsInHanded_of_change (C := Try.checked) own started (by kernel_rfl) Try.func7
    (ChangeSpec.witness6 (enc := enc) (C := Try.checked) false ⟨#[], #[.slice none 0 0], []⟩ 8 (by kernel_rfl) (by kernel_rfl) (by kernel_rfl) (by kernel_rfl)) ?_
  intro W base args ds gs before hval0 hW hcnd _
  have hval : ∀ (j : Nat) t v, Try.f7.params[j]? = some t → args[j]? = some v → Value.okWide Try.prog W .any base t v := hval0
  have hW' := hW
  obtain ⟨p, q, hA0, hV, rfl, hfz, hnd⟩ := hW
  have hA : DataW.TrodAll enc Try.prog W 0 (fun _ => true) true Try.f7.params.toList args.toList ds p := hA0
  rw [Try.params7] at hA hval
  obtain ⟨v0, vs0, d0, ds0, p0, q0, hargs, rfl, rfl, h0, r0⟩ := trodAll_cons hA
  obtain ⟨rfl, rfl, rfl⟩ := trodAll_nil r0
  obtain rfl : args = #[v0] := by cases args; simp_all
  obtain ⟨rfl, rfl⟩ := trodVars_none hV
  have k0 := h0
  have lt0 : ∀ x ∈ p0, x.block < W.heap.size := by obtain ⟨m, hm⟩ := k0; exact DataW.trod_lt m _ _ _ hm
  obtain ⟨a0, len0, cap0, rfl⟩ := okWide_slice Try.underlying41 (hval 0 41 v0 rfl rfl)
  obtain ⟨fuel0, hf0⟩ := h0
  obtain ⟨z0, w0⟩ : ∃ zs, IsRow .u8 W a0 len0 cap0 zs := isRow_of Try.underlying41 Try.underlying5 (by kernel_rfl) (by simpa [Value.cells] using hf0)
  clear hA0 hval0
  refine (walk a0 len0 cap0 z0 W w0).mono fun e W' ⟨he, bel⟩ => ?_
  subst he
  exact ⟨_, rfl, _, _, _, [], _, [], hW', trodAll_mk1 (shut_bool Try.underlying4 _), (trodAll_cons_mk (Below.trod laidOut (by kernel_rfl) (of_decide_eq_true (by kernel_rfl)) k0 bel lt0) trodAll_mk0), rfl, bel.frame _, fun h => by cases h⟩

theorem over : Rows.fnRanksRow.holds Try.pinned (OpenSpec.ofChange Rows.fnRanksSpec) :=
  OpenClaim.holds_of_wide 7 Try.f7 rfl rfl rfl rfl rfl rfl rfl ⟨rfl, rfl, rfl, rfl, rfl⟩ rfl rfl rfl rfl rfl (by kernel_rfl) Try.func7 (by kernel_rfl)
    (of_decide_eq_true (by kernel_rfl)) (by unfold Func.isWrapper; first | (rw [if_pos (by decide +kernel)]; kernel_rfl) | (rw [if_neg (by decide +kernel)]; exact ⟨rfl, rfl⟩))
    (fun os started H enc _ => lifted os started H enc)

/-- ████ THE STATEMENT ████ -/
theorem proved : Rows.FnRanksSaid := over
#print axioms proved
end Go.Proofs.Ytpelnfenfeoeeaa.fnRanks
