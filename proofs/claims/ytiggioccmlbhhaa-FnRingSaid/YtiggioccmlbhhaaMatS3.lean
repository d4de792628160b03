/-
  Chapter 3, in the model: AddMatrices, ScaleMatrix.
-/
import Derived.Test.YtiggioccmlbhhaaMatNew
import Derived.Test.YtiggioccmlbhhaaMatDone
import Derived.Test.YtiggioccmlbhhaaUptoMath
import Derived.StillTailTactics
namespace Go.Proofs.Ytiggioccmlbhhaa
open Go.RowKit

def addL (xs ys : List Int) : List Int := (List.range xs.length).map fun i => xs.getD i 0 + ys.getD i 0
def addM (r c : Int) (xs : List Int) (r' c' : Int) (ys : List Int) : MR := if (isMat r c xs && isMat r' c' ys && decide (r = r' ∧ c = c')) = true then MR.done r c (addL xs ys) else MR.no

set_option maxRecDepth 100000 in
set_option maxHeartbeats 1000000 in
/-- The loop of AddMatrices and what follows: valid matrices of one size. -/
theorem sAdd_t (R C : Nat) (a b : Option Addr) (m n : Nat) (xs ys : List Int) (w : World) (h : Rd w a xs) (h' : Rd w b ys) (hR : R ≤ 24) (hC : C ≤ 24) (hx : xs.length = R * C) (hy : ys.length = R * C)
    (hm : isMat R C xs = true) (hm' : isMat R C ys = true) :
    Calls Try.prog 21 #[.agg #[.int .i64 R, .int .i64 C, .slice a xs.length m], .agg #[.int .i64 R, .int .i64 C, .slice b ys.length n]] w (MatRes (MR.done R C (addL xs ys)) w) := by
  have hle : R * C ≤ 24 * 24 := Nat.mul_le_mul hR hC
  have B0 : ∀ o1 o2 o3, Below w.heap.size w (((w.alloc o1).alloc o2).alloc o3) := fun o1 o2 o3 => (((Below.refl _ _).alloc (Nat.le_refl _) _).alloc (by simp) _).alloc (by simp <;> omega) _
  have BH := Lib.hid B0
  have H := Lib.hid h
  have H' := Lib.hid h'
  have M := Lib.hid hm
  have M' := Lib.hid hm'
  obtain ⟨N, hN⟩ : ∃ N, R * C = N := ⟨_, rfl⟩
  rw [hN] at hx hy hle
  have HX := Lib.hid hx
  have HY := Lib.hid hy
  have HN := Lib.hid hN
  rw [hx, hy]
  have n1 := (isMat_says hm).2.2.2
  have n2 := (isMat_says hm').2.2.2
  have NX := Lib.hid n1
  have NY := Lib.hid n2
  clear B0 h h' hm hm' hx hy hN n1 n2
  go_enter Try.func21, Try.ntmps21
  go_wp2_with fail
  have ST := sIsMat R C a m xs _ (H.out.below (BH.out (.cells #[.int .i64 R, .int .i64 C, .slice a N m] 26) (.cells #[.int .i64 R, .int .i64 C, .slice b N n] 26) (.cells #[.int .i64 0, .int .i64 0, .slice none 0 0] 26))) (by rw [HX.out]; omega)
  rw [HX.out] at ST
  refine ST.mono ?_
  clear ST
  rintro e w1 ⟨rfl, hb⟩
  have K0 : Hid (Blk3 w1 w.heap.size 26 (.int .i64 R) (.int .i64 C) (.slice a N m)) := (((Blk3.at_ _ _ _ _ rfl).old _).old _).keep hb (by simp <;> omega)
  have K1 : Hid (Blk3 w1 (w.heap.size + 1) 26 (.int .i64 R) (.int .i64 C) (.slice b N n)) := ((Blk3.at_ _ _ _ _ (by simp)).old _).keep hb (by simp <;> omega)
  have K2 : Hid (Blk3 w1 (w.heap.size + 1 + 1) 26 (.int .i64 0) (.int .i64 0) (.slice none 0 0)) := (Blk3.at_ _ _ _ _ (by simp)).keep hb (by simp)
  have B : Hid (Below w.heap.size w w1) := (BH.out _ _ _).trans (hb.mono (by simp <;> omega))
  clear hb
  obtain ⟨c0, c1, c2, -, -, -⟩ := K0.out.all
  obtain ⟨d0, d1, d2, -, -, -⟩ := K1.out.all
  rw [M.out]
  go_wp2_with fail
  have ST := sIsMat R C b n ys _ (H'.out.below B.out) (by rw [HY.out]; omega)
  rw [HY.out] at ST
  refine ST.mono ?_
  clear ST
  rintro e w2 ⟨rfl, hb⟩
  have K0 := Lib.hid (K0.out.keep hb K0.out.lt)
  have K1 := Lib.hid (K1.out.keep hb K1.out.lt)
  have K2 := Lib.hid (K2.out.keep hb K2.out.lt)
  have B := Lib.hid (B.out.trans (hb.mono B.out.size))
  clear hb
  obtain ⟨e0, e1, e2, -, -, -⟩ := K0.out.all
  obtain ⟨g0, g1, g2, -, -, -⟩ := K1.out.all
  rw [M'.out]
  go_wp2_with fail
  refine (sNew R C _ (by omega) (by omega)).mono ?_
  rintro e w3 ⟨g, rfl, hg, hi, hb⟩
  have l0 := Nat.lt_of_lt_of_le K0.out.lt hg
  have l1 := Nat.lt_of_lt_of_le K1.out.lt hg
  have l2 := Nat.lt_of_lt_of_le K2.out.lt hg
  clear hg
  rw [HN.out] at hi ⊢
  have K0 := Lib.hid (K0.out.keep hb K0.out.lt)
  have K1 := Lib.hid (K1.out.keep hb K1.out.lt)
  have K2 := Lib.hid (K2.out.keep hb K2.out.lt)
  have B := Lib.hid (B.out.trans (hb.mono B.out.size))
  have I := Lib.hid hi
  have gl := hi.lt
  clear hb hi
  simp only [List.length_replicate]
  have BA : Hid (Below w.heap.size w (w3.alloc (.cells #[.int .i64 R, .int .i64 C, .slice (some ⟨g, 0, none⟩) N N] 26))) := B.out.alloc B.out.size _
  have K0 := Lib.hid (K0.out.old (.cells #[.int .i64 R, .int .i64 C, .slice (some ⟨g, 0, none⟩) N N] 26))
  have K1 := Lib.hid (K1.out.old (.cells #[.int .i64 R, .int .i64 C, .slice (some ⟨g, 0, none⟩) N N] 26))
  have K2 := Lib.hid (K2.out.old (.cells #[.int .i64 R, .int .i64 C, .slice (some ⟨g, 0, none⟩) N N] 26))
  have K6 : Hid (Blk3 (w3.alloc (.cells #[.int .i64 R, .int .i64 C, .slice (some ⟨g, 0, none⟩) N N] 26)) w3.heap.size 26 (.int .i64 R) (.int .i64 C) (.slice (some ⟨g, 0, none⟩) N N)) := Blk3.at_ _ _ _ _ rfl
  have I := Lib.hid (I.out.old (.cells #[.int .i64 R, .int .i64 C, .slice (some ⟨g, 0, none⟩) N N] 26))
  go_wp2_with fail
  go_loopw [7] (fun i wr => ∃ k : Nat, i = .int .i64 k ∧ k ≤ N ∧ Ints wr g (upto N k fun i => xs.getD i 0 + ys.getD i 0) ∧ (w3.alloc (.cells #[.int .i64 R, .int .i64 C, .slice (some ⟨g, 0, none⟩) N N] 26)).grownBy wr (some g)) (fun i _ => N - (intOf i).toNat)
  case atStart => exact ⟨0, rfl, by omega, by rw [upto_zero]; exact I.out, World.grownBy.refl _ _⟩
  case round =>
    obtain ⟨k, rfl, hk, hi, hgr⟩ := hrel
    have I := Lib.hid hi
    have G := Lib.hid hgr
    clear hi hgr
    have R0 := Lib.hid (K0.out.keepOne G.out (by omega))
    have R1 := Lib.hid (K1.out.keepOne G.out (by omega))
    have R2 := Lib.hid (K2.out.keepOne G.out (by omega))
    have R6 := Lib.hid (K6.out.keepOne G.out (by omega))
    obtain ⟨p0, p1, p2, -, -, -⟩ := R0.out.all
    obtain ⟨q0, q1, q2, -, -, -⟩ := R1.out.all
    obtain ⟨r0, r1, r2, -, -, -⟩ := R6.out.all
    by_cases hlt : k < N
    · obtain ⟨x, hx⟩ : ∃ x, xs.getD k 0 = x := ⟨_, rfl⟩
      obtain ⟨y, hy⟩ : ∃ y, ys.getD k 0 = y := ⟨_, rfl⟩
      obtain ⟨b1, o1, rfl, hc1⟩ := H.out k (by rw [HX.out]; exact hlt)
      obtain ⟨b2, o2, rfl, hc2⟩ := H'.out k (by rw [HY.out]; exact hlt)
      have u1 := World.block_lt_of_cell? w _ hc1
      have u2 := World.block_lt_of_cell? w _ hc2
      have hc1 := G.out.cell ((BA.out.cell (p := ⟨b1, o1 + k, none⟩) u1).trans hc1) (by simp; simp at u1; omega)
      have hc2 := G.out.cell ((BA.out.cell (p := ⟨b2, o2 + k, none⟩) u2).trans hc2) (by simp; simp at u2; omega)
      have v1 := nums_at NX.out (j := k) (by rw [HX.out]; exact hlt)
      have v2 := nums_at NY.out (j := k) (by rw [HY.out]; exact hlt)
      rw [hx] at hc1 v1
      rw [hy] at hc2 v2
      obtain ⟨v11, v12⟩ := v1
      obtain ⟨v21, v22⟩ := v2
      have hold := I.out.cell (i := k) (by rw [upto_length]; exact hlt)
      rw [upto_at] at hold
      have hfr := I.out.free k
      have XX := Lib.hid hx
      have YY := Lib.hid hy
      clear hx hy u1 u2
      go_wp2_with fail
      go_still_tail 15, (by kernel_rfl)
      go_wp2_with fail
      go_roundw
      case rel =>
        refine ⟨k + 1, by go_num, by omega, ?_, ?_⟩
        · rw [← upto_step]
          rw [XX.out, YY.out]
          first | exact I.out.set k _ | exact I.out.drew.set k _
        · exact grown_drew_one (grown_set_one G.out rfl _)
      case measure => simp [intOf]; omega
    · have hkn : k = N := by omega
      subst hkn
      have e : upto k k (fun i => xs.getD i 0 + ys.getD i 0) = addL xs ys := by rw [upto_all]; unfold addL; rw [HX.out]
      have I2 : Hid (Ints wr g (addL xs ys)) := by have := I.out; rw [e] at this; exact this
      have hl : (addL xs ys).length = k := by unfold addL; simp [HX.out]
      have HL := Lib.hid hl
      have B := Lib.hid (BA.out.trans (below_of_one G.out (by omega) BA.out.size))
      clear e hl
      go_wp2_with fail
      have ST := sDone R C (some ⟨g, 0, none⟩) k (addL xs ys) wr I2.out.rd (by rw [HL.out]; omega)
      rw [HL.out] at ST
      refine ST.mono ?_
      clear ST
      rintro e w4 ⟨rfl, hb⟩
      have R2 := Lib.hid (R2.out.keep hb R2.out.lt)
      have I2 := Lib.hid (I2.out.keep hb I2.out.lt)
      have B := Lib.hid (B.out.trans (hb.mono B.out.size))
      clear hb
      obtain ⟨s0, s1, s2, t0, t1, t2⟩ := R2.out.all
      have z2 := R2.out.lt
      have be : ∀ x y z o, Below w.heap.size w ((((w4.setCell ⟨w.heap.size + 1 + 1, 0, none⟩ x).setCell ⟨w.heap.size + 1 + 1, 1, none⟩ y).setCell ⟨w.heap.size + 1 + 1, 2, none⟩ z).alloc o) := fun x y z o =>
        (((B.out.setCell (by show w.heap.size ≤ w.heap.size + 1 + 1; omega) _).setCell (by show w.heap.size ≤ w.heap.size + 1 + 1; omega) _).setCell (by show w.heap.size ≤ w.heap.size + 1 + 1; omega) _).alloc (by have := B.out.size; simpa using this) _
      have BE := Lib.hid be
      clear be
      rcases Bool.eq_false_or_eq_true (isMat R C (addL xs ys)) with hd | hd
      · have E : Hid (MR.done R C (addL xs ys) = ⟨true, R, C, addL xs ys⟩) := by show MR.done R C (addL xs ys) = _; unfold MR.done; rw [hd]; rfl
        rw [hd]
        clear hd
        unfold DoneRes
        go_wp2_with fail
        obtain ⟨E0, E1, E2, -, -, -⟩ := ((((R2.out.set0 (.int .i64 R)).set1 (.int .i64 C)).set2 (.slice (some ⟨g, 0, none⟩) k k)).old (.cells #[.int .i64 R, .int .i64 C, .slice (some ⟨g, 0, none⟩) k k] 26)).all
        rw [E.out]
        refine bodyPost_ret (v := .tuple #[.agg #[.int .i64 R, .int .i64 C, .slice (some ⟨g, 0, none⟩) k k], .bool true]) (by simp [results, Try.results21, go_sem, E0, E1, E2]) rfl ⟨_, rfl, ?_, ?_⟩
        · refine .inr ⟨g, k, by rw [HL.out], by omega, ?_, by simp [HL.out], by simp [HL.out]; omega⟩
          exact (((I2.out.far (by show g ≠ w.heap.size + 1 + 1; omega) _).far (by show g ≠ w.heap.size + 1 + 1; omega) _).far (by show g ≠ w.heap.size + 1 + 1; omega) _).old _
        · exact BE.out _ _ _ _
      · have E : Hid (MR.done R C (addL xs ys) = MR.no) := by show MR.done R C (addL xs ys) = _; unfold MR.done; rw [hd]; rfl
        rw [hd]
        clear hd
        unfold DoneRes
        go_wp2_with fail
        obtain ⟨E0, E1, E2, -, -, -⟩ := ((((R2.out.set0 (.int .i64 0)).set1 (.int .i64 0)).set2 (.slice none 0 0)).old (.cells #[.int .i64 0, .int .i64 0, .slice none 0 0] 26)).all
        rw [E.out]
        exact bodyPost_ret (v := .tuple #[.agg #[.int .i64 0, .int .i64 0, .slice none 0 0], .bool false]) (by simp [results, Try.results21, go_sem, E0, E1, E2]) rfl ⟨_, rfl, .inl ⟨rfl, rfl⟩, BE.out _ _ _ _⟩
/-! ### AddMatrices -/
set_option maxRecDepth 100000 in
set_option maxHeartbeats 1000000 in
theorem sAdd (r c r' c' : Int) (a b : Option Addr) (m n : Nat) (xs ys : List Int) (w : World) (h : Rd w a xs) (h' : Rd w b ys) (hn : xs.length ≤ 16777216) (hn' : ys.length ≤ 16777216) :
    Calls Try.prog 21 #[.agg #[.int .i64 r, .int .i64 c, .slice a xs.length m], .agg #[.int .i64 r', .int .i64 c', .slice b ys.length n]] w (MatRes (addM r c xs r' c' ys) w) := by
  rcases Bool.eq_false_or_eq_true (isMat r c xs) with hm | hm
  · rcases Bool.eq_false_or_eq_true (isMat r' c' ys) with hm' | hm'
    · by_cases e1 : r = r'
      · by_cases e2 : c = c'
        · subst e1 e2
          obtain ⟨⟨r1, r2⟩, ⟨c1, c2⟩, l1, -⟩ := isMat_says hm
          obtain ⟨-, -, l2, -⟩ := isMat_says hm'
          obtain ⟨R, rfl⟩ := Int.eq_ofNat_of_zero_le r1
          obtain ⟨C, rfl⟩ := Int.eq_ofNat_of_zero_le c1
          rw [← Int.natCast_mul] at l1 l2
          have E : addM R C xs R C ys = MR.done R C (addL xs ys) := by unfold addM; rw [hm, hm']; simp
          rw [E]
          exact sAdd_t R C a b m n xs ys w h h' (by omega) (by omega) (by omega) (by omega) hm hm'
        · have E : Hid (addM r c xs r' c' ys = MR.no) := by show addM r c xs r' c' ys = _; unfold addM; rw [hm, hm']; simp [e2]
          subst e1
          have n1 : (c == c') = false := by simpa using e2
          have n2 : (c != c') = true := by simpa using e2
          have B0 : ∀ o1 o2 o3, Below w.heap.size w (((w.alloc o1).alloc o2).alloc o3) := fun o1 o2 o3 => (((Below.refl _ _).alloc (Nat.le_refl _) _).alloc (by simp) _).alloc (by simp <;> omega) _
          have BH := Lib.hid B0
          have H := Lib.hid h
          have H' := Lib.hid h'
          clear B0 h h'
          have M := Lib.hid hm
          have M' := Lib.hid hm'
          clear hm hm' e2
          go_enter Try.func21, Try.ntmps21
          go_wp2_with fail
          refine (sIsMat r c a m xs _ (H.out.below (BH.out (.cells #[.int .i64 r, .int .i64 c, .slice a xs.length m] 26) (.cells #[.int .i64 r, .int .i64 c', .slice b ys.length n] 26) (.cells #[.int .i64 0, .int .i64 0, .slice none 0 0] 26))) hn).mono ?_
          rintro e w1 ⟨rfl, hb⟩
          have K0 : Hid (Blk3 w1 w.heap.size 26 (.int .i64 r) (.int .i64 c) (.slice a xs.length m)) := (((Blk3.at_ _ _ _ _ rfl).old _).old _).keep hb (by simp <;> omega)
          have K1 : Hid (Blk3 w1 (w.heap.size + 1) 26 (.int .i64 r) (.int .i64 c') (.slice b ys.length n)) := ((Blk3.at_ _ _ _ _ (by simp)).old _).keep hb (by simp <;> omega)
          have K2 : Hid (Blk3 w1 (w.heap.size + 1 + 1) 26 (.int .i64 0) (.int .i64 0) (.slice none 0 0)) := (Blk3.at_ _ _ _ _ (by simp)).keep hb (by simp)
          have B : Hid (Below w.heap.size w w1) := (BH.out _ _ _).trans (hb.mono (by simp <;> omega))
          clear hb
          obtain ⟨ca0, ca1, ca2, -, -, -⟩ := K0.out.all
          obtain ⟨cb0, cb1, cb2, -, -, -⟩ := K1.out.all
          obtain ⟨cc0, cc1, cc2, ff0, ff1, ff2⟩ := K2.out.all
          rw [M.out]
          go_wp2_with fail
          refine (sIsMat r c' b n ys _ (H'.out.below B.out) hn').mono ?_
          rintro e w2 ⟨rfl, hb⟩
          have K0 := Lib.hid (K0.out.keep hb K0.out.lt)
          have K1 := Lib.hid (K1.out.keep hb K1.out.lt)
          have K2 := Lib.hid (K2.out.keep hb K2.out.lt)
          have B := Lib.hid (B.out.trans (hb.mono B.out.size))
          clear hb
          obtain ⟨da0, da1, da2, -, -, -⟩ := K0.out.all
          obtain ⟨db0, db1, db2, -, -, -⟩ := K1.out.all
          obtain ⟨dc0, dc1, dc2, gf0, gf1, gf2⟩ := K2.out.all
          rw [M'.out]
          go_wp2_with fail
          obtain ⟨E0, E1, E2, -, -, -⟩ := (((K2.out.set0 (.int .i64 0)).set1 (.int .i64 0)).set2 (.slice none 0 0)).all
          rw [E.out]
          exact bodyPost_ret (v := .tuple #[.agg #[.int .i64 0, .int .i64 0, .slice none 0 0], .bool false]) (by simp [results, Try.results21, go_sem, E0, E1, E2]) rfl ⟨_, rfl, .inl ⟨rfl, rfl⟩, ((B.out.setCell (by show w.heap.size ≤ w.heap.size + 1 + 1; omega) _).setCell (by show w.heap.size ≤ w.heap.size + 1 + 1; omega) _).setCell (by show w.heap.size ≤ w.heap.size + 1 + 1; omega) _⟩
      · have E : Hid (addM r c xs r' c' ys = MR.no) := by show addM r c xs r' c' ys = _; unfold addM; rw [hm, hm']; simp [e1]
        have n1 : (r == r') = false := by simpa using e1
        have n2 : (r != r') = true := by simpa using e1
        have B0 : ∀ o1 o2 o3, Below w.heap.size w (((w.alloc o1).alloc o2).alloc o3) := fun o1 o2 o3 => (((Below.refl _ _).alloc (Nat.le_refl _) _).alloc (by simp) _).alloc (by simp <;> omega) _
        have BH := Lib.hid B0
        have H := Lib.hid h
        have H' := Lib.hid h'
        clear B0 h h'
        have M := Lib.hid hm
        have M' := Lib.hid hm'
        clear hm hm' e1
        go_enter Try.func21, Try.ntmps21
        go_wp2_with fail
        refine (sIsMat r c a m xs _ (H.out.below (BH.out (.cells #[.int .i64 r, .int .i64 c, .slice a xs.length m] 26) (.cells #[.int .i64 r', .int .i64 c', .slice b ys.length n] 26) (.cells #[.int .i64 0, .int .i64 0, .slice none 0 0] 26))) hn).mono ?_
        rintro e w1 ⟨rfl, hb⟩
        have K0 : Hid (Blk3 w1 w.heap.size 26 (.int .i64 r) (.int .i64 c) (.slice a xs.length m)) := (((Blk3.at_ _ _ _ _ rfl).old _).old _).keep hb (by simp <;> omega)
        have K1 : Hid (Blk3 w1 (w.heap.size + 1) 26 (.int .i64 r') (.int .i64 c') (.slice b ys.length n)) := ((Blk3.at_ _ _ _ _ (by simp)).old _).keep hb (by simp <;> omega)
        have K2 : Hid (Blk3 w1 (w.heap.size + 1 + 1) 26 (.int .i64 0) (.int .i64 0) (.slice none 0 0)) := (Blk3.at_ _ _ _ _ (by simp)).keep hb (by simp)
        have B : Hid (Below w.heap.size w w1) := (BH.out _ _ _).trans (hb.mono (by simp <;> omega))
        clear hb
        obtain ⟨ca0, ca1, ca2, -, -, -⟩ := K0.out.all
        obtain ⟨cb0, cb1, cb2, -, -, -⟩ := K1.out.all
        obtain ⟨cc0, cc1, cc2, ff0, ff1, ff2⟩ := K2.out.all
        rw [M.out]
        go_wp2_with fail
        refine (sIsMat r' c' b n ys _ (H'.out.below B.out) hn').mono ?_
        rintro e w2 ⟨rfl, hb⟩
        have K0 := Lib.hid (K0.out.keep hb K0.out.lt)
        have K1 := Lib.hid (K1.out.keep hb K1.out.lt)
        have K2 := Lib.hid (K2.out.keep hb K2.out.lt)
        have B := Lib.hid (B.out.trans (hb.mono B.out.size))
        clear hb
        obtain ⟨da0, da1, da2, -, -, -⟩ := K0.out.all
        obtain ⟨db0, db1, db2, -, -, -⟩ := K1.out.all
        obtain ⟨dc0, dc1, dc2, gf0, gf1, gf2⟩ := K2.out.all
        rw [M'.out]
        go_wp2_with fail
        obtain ⟨E0, E1, E2, -, -, -⟩ := (((K2.out.set0 (.int .i64 0)).set1 (.int .i64 0)).set2 (.slice none 0 0)).all
        rw [E.out]
        exact bodyPost_ret (v := .tuple #[.agg #[.int .i64 0, .int .i64 0, .slice none 0 0], .bool false]) (by simp [results, Try.results21, go_sem, E0, E1, E2]) rfl ⟨_, rfl, .inl ⟨rfl, rfl⟩, ((B.out.setCell (by show w.heap.size ≤ w.heap.size + 1 + 1; omega) _).setCell (by show w.heap.size ≤ w.heap.size + 1 + 1; omega) _).setCell (by show w.heap.size ≤ w.heap.size + 1 + 1; omega) _⟩
    · have E : Hid (addM r c xs r' c' ys = MR.no) := by show addM r c xs r' c' ys = _; unfold addM; rw [hm, hm']; simp
      have B0 : ∀ o1 o2 o3, Below w.heap.size w (((w.alloc o1).alloc o2).alloc o3) := fun o1 o2 o3 => (((Below.refl _ _).alloc (Nat.le_refl _) _).alloc (by simp) _).alloc (by simp <;> omega) _
      have BH := Lib.hid B0
      have H := Lib.hid h
      have H' := Lib.hid h'
      clear B0 h h'
      have M := Lib.hid hm
      have M' := Lib.hid hm'
      clear hm hm'
      go_enter Try.func21, Try.ntmps21
      go_wp2_with fail
      refine (sIsMat r c a m xs _ (H.out.below (BH.out (.cells #[.int .i64 r, .int .i64 c, .slice a xs.length m] 26) (.cells #[.int .i64 r', .int .i64 c', .slice b ys.length n] 26) (.cells #[.int .i64 0, .int .i64 0, .slice none 0 0] 26))) hn).mono ?_
      rintro e w1 ⟨rfl, hb⟩
      have K0 : Hid (Blk3 w1 w.heap.size 26 (.int .i64 r) (.int .i64 c) (.slice a xs.length m)) := (((Blk3.at_ _ _ _ _ rfl).old _).old _).keep hb (by simp <;> omega)
      have K1 : Hid (Blk3 w1 (w.heap.size + 1) 26 (.int .i64 r') (.int .i64 c') (.slice b ys.length n)) := ((Blk3.at_ _ _ _ _ (by simp)).old _).keep hb (by simp <;> omega)
      have K2 : Hid (Blk3 w1 (w.heap.size + 1 + 1) 26 (.int .i64 0) (.int .i64 0) (.slice none 0 0)) := (Blk3.at_ _ _ _ _ (by simp)).keep hb (by simp)
      have B : Hid (Below w.heap.size w w1) := (BH.out _ _ _).trans (hb.mono (by simp <;> omega))
      clear hb
      obtain ⟨ca0, ca1, ca2, -, -, -⟩ := K0.out.all
      obtain ⟨cb0, cb1, cb2, -, -, -⟩ := K1.out.all
      obtain ⟨cc0, cc1, cc2, ff0, ff1, ff2⟩ := K2.out.all
      rw [M.out]
      go_wp2_with fail
      refine (sIsMat r' c' b n ys _ (H'.out.below B.out) hn').mono ?_
      rintro e w2 ⟨rfl, hb⟩
      have K0 := Lib.hid (K0.out.keep hb K0.out.lt)
      have K1 := Lib.hid (K1.out.keep hb K1.out.lt)
      have K2 := Lib.hid (K2.out.keep hb K2.out.lt)
      have B := Lib.hid (B.out.trans (hb.mono B.out.size))
      clear hb
      obtain ⟨da0, da1, da2, -, -, -⟩ := K0.out.all
      obtain ⟨db0, db1, db2, -, -, -⟩ := K1.out.all
      obtain ⟨dc0, dc1, dc2, gf0, gf1, gf2⟩ := K2.out.all
      rw [M'.out]
      go_wp2_with fail
      obtain ⟨E0, E1, E2, -, -, -⟩ := (((K2.out.set0 (.int .i64 0)).set1 (.int .i64 0)).set2 (.slice none 0 0)).all
      rw [E.out]
      exact bodyPost_ret (v := .tuple #[.agg #[.int .i64 0, .int .i64 0, .slice none 0 0], .bool false]) (by simp [results, Try.results21, go_sem, E0, E1, E2]) rfl ⟨_, rfl, .inl ⟨rfl, rfl⟩, ((B.out.setCell (by show w.heap.size ≤ w.heap.size + 1 + 1; omega) _).setCell (by show w.heap.size ≤ w.heap.size + 1 + 1; omega) _).setCell (by show w.heap.size ≤ w.heap.size + 1 + 1; omega) _⟩
  · have E : Hid (addM r c xs r' c' ys = MR.no) := by show addM r c xs r' c' ys = _; unfold addM; rw [hm]; simp
    have B0 : ∀ o1 o2 o3, Below w.heap.size w (((w.alloc o1).alloc o2).alloc o3) := fun o1 o2 o3 => (((Below.refl _ _).alloc (Nat.le_refl _) _).alloc (by simp) _).alloc (by simp <;> omega) _
    have BH := Lib.hid B0
    have H := Lib.hid h
    have H' := Lib.hid h'
    clear B0 h h'
    have M := Lib.hid hm
    clear hm hn'
    go_enter Try.func21, Try.ntmps21
    go_wp2_with fail
    refine (sIsMat r c a m xs _ (H.out.below (BH.out (.cells #[.int .i64 r, .int .i64 c, .slice a xs.length m] 26) (.cells #[.int .i64 r', .int .i64 c', .slice b ys.length n] 26) (.cells #[.int .i64 0, .int .i64 0, .slice none 0 0] 26))) hn).mono ?_
    rintro e w1 ⟨rfl, hb⟩
    have K0 : Hid (Blk3 w1 w.heap.size 26 (.int .i64 r) (.int .i64 c) (.slice a xs.length m)) := (((Blk3.at_ _ _ _ _ rfl).old _).old _).keep hb (by simp <;> omega)
    have K1 : Hid (Blk3 w1 (w.heap.size + 1) 26 (.int .i64 r') (.int .i64 c') (.slice b ys.length n)) := ((Blk3.at_ _ _ _ _ (by simp)).old _).keep hb (by simp <;> omega)
    have K2 : Hid (Blk3 w1 (w.heap.size + 1 + 1) 26 (.int .i64 0) (.int .i64 0) (.slice none 0 0)) := (Blk3.at_ _ _ _ _ (by simp)).keep hb (by simp)
    have B : Hid (Below w.heap.size w w1) := (BH.out _ _ _).trans (hb.mono (by simp <;> omega))
    clear hb
    obtain ⟨ca0, ca1, ca2, -, -, -⟩ := K0.out.all
    obtain ⟨cb0, cb1, cb2, -, -, -⟩ := K1.out.all
    obtain ⟨cc0, cc1, cc2, ff0, ff1, ff2⟩ := K2.out.all
    rw [M.out]
    go_wp2_with fail
    obtain ⟨E0, E1, E2, -, -, -⟩ := (((K2.out.set0 (.int .i64 0)).set1 (.int .i64 0)).set2 (.slice none 0 0)).all
    rw [E.out]
    exact bodyPost_ret (v := .tuple #[.agg #[.int .i64 0, .int .i64 0, .slice none 0 0], .bool false]) (by simp [results, Try.results21, go_sem, E0, E1, E2]) rfl ⟨_, rfl, .inl ⟨rfl, rfl⟩, ((B.out.setCell (by show w.heap.size ≤ w.heap.size + 1 + 1; omega) _).setCell (by show w.heap.size ≤ w.heap.size + 1 + 1; omega) _).setCell (by show w.heap.size ≤ w.heap.size + 1 + 1; omega) _⟩
end Go.Proofs.Ytiggioccmlbhhaa
