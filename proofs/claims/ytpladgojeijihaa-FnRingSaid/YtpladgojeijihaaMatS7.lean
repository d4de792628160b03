/-
  Chapter 3, in the model: MultiplyMatrices.
-/
import Derived.Test.YtpladgojeijihaaMatS6
namespace Go.Proofs.Ytpladgojeijihaa
open Go.RowKit

def mulM (r c : Int) (xs : List Int) (r' c' : Int) (ys : List Int) : MR := if (isMat r c xs && isMat r' c' ys && decide (c = r')) = true then MR.done r c' (mulL r.toNat c.toNat c'.toNat xs ys) else MR.no

set_option maxHeartbeats 1000000 in
theorem sMul_t (R K C : Nat) (a b : Option Addr) (m n : Nat) (xs ys : List Int) (w : World) (h : Rd w a xs) (h' : Rd w b ys) (hn : xs.length ≤ 16777216) (hn' : ys.length ≤ 16777216)
    (hm : isMat R K xs = true) (hm' : isMat K C ys = true) :
    Calls Try.prog 23 #[.agg #[.int .i64 R, .int .i64 K, .slice a xs.length m], .agg #[.int .i64 K, .int .i64 C, .slice b ys.length n]] w (MatRes (MR.done R C (mulL R K C xs ys)) w) := by
  obtain ⟨⟨r1, r2⟩, ⟨k1, k2⟩, l1, nx⟩ := isMat_says hm
  obtain ⟨-, ⟨c1, c2⟩, l2, ny⟩ := isMat_says hm'
  rw [← Int.natCast_mul] at l1 l2
  have hle : R * C ≤ 24 * 24 := Nat.mul_le_mul (by omega) (by omega)
  have hl1 : xs.length = R * K := by omega
  have hl2 : ys.length = K * C := by omega
  have HL1 := Lib.hid hl1
  have HL2 := Lib.hid hl2
  have NX := Lib.hid nx
  have NY := Lib.hid ny
  clear l1 l2 hl1 hl2 nx ny
  have B0 : ∀ o1 o2 o3, Below w.heap.size w (((w.alloc o1).alloc o2).alloc o3) := fun o1 o2 o3 => (((Below.refl _ _).alloc (Nat.le_refl _) _).alloc (by simp) _).alloc (by simp <;> omega) _
  have BH := Lib.hid B0
  have H := Lib.hid h
  have H' := Lib.hid h'
  clear B0 h h'
  have M := Lib.hid hm
  have M' := Lib.hid hm'
  clear hm hm'
  go_enter Try.func23, Try.ntmps23
  go_wp2_with fail
  refine (sIsMat R K a m xs _ (H.out.below (BH.out (.cells #[.int .i64 R, .int .i64 K, .slice a xs.length m] 26) (.cells #[.int .i64 K, .int .i64 C, .slice b ys.length n] 26) (.cells #[.int .i64 0, .int .i64 0, .slice none 0 0] 26))) hn).mono ?_
  rintro e w1 ⟨rfl, hb⟩
  have K0 : Hid (Blk3 w1 w.heap.size 26 (.int .i64 R) (.int .i64 K) (.slice a xs.length m)) := (((Blk3.at_ _ _ _ _ rfl).old _).old _).keep hb (by simp <;> omega)
  have K1 : Hid (Blk3 w1 (w.heap.size + 1) 26 (.int .i64 K) (.int .i64 C) (.slice b ys.length n)) := ((Blk3.at_ _ _ _ _ (by simp)).old _).keep hb (by simp <;> omega)
  have K2 : Hid (Blk3 w1 (w.heap.size + 1 + 1) 26 (.int .i64 0) (.int .i64 0) (.slice none 0 0)) := (Blk3.at_ _ _ _ _ (by simp)).keep hb (by simp)
  have B : Hid (Below w.heap.size w w1) := (BH.out _ _ _).trans (hb.mono (by simp <;> omega))
  clear hb
  obtain ⟨ca0, ca1, ca2, -, -, -⟩ := K0.out.all
  obtain ⟨cb0, cb1, cb2, -, -, -⟩ := K1.out.all
  obtain ⟨cc0, cc1, cc2, ff0, ff1, ff2⟩ := K2.out.all
  rw [M.out]
  go_wp2_with fail
  refine (sIsMat K C b n ys _ (H'.out.below B.out) hn').mono ?_
  rintro e w2 ⟨rfl, hb⟩
  have K0 := Lib.hid (K0.out.keep hb K0.out.lt)
  have K1 := Lib.hid (K1.out.keep hb K1.out.lt)
  have K2 := Lib.hid (K2.out.keep hb K2.out.lt)
  have B := Lib.hid (B.out.trans (hb.mono B.out.size))
  clear hb
  obtain ⟨da0, da1, da2, -, -, -⟩ := K0.out.all
  obtain ⟨db0, db1, db2, -, -, -⟩ := K1.out.all
  obtain ⟨dc0, dc1, dc2, gf0, gf1, gf2⟩ := K2.out.all
  rw [M'.out]
  go_wp2_with fail
  refine (sMulL R K C a b m n xs ys _ (H.out.below B.out) (H'.out.below B.out) (by omega) (by omega) (by omega) HL1.out HL2.out NX.out NY.out).mono ?_
  rintro e w3 ⟨g, rfl, hg, hi, hb⟩
  have l2 := Nat.lt_of_lt_of_le K2.out.lt hg
  obtain ⟨k, hk⟩ : ∃ k, (mulL R K C xs ys).length = k := ⟨_, rfl⟩
  have HL := Lib.hid hk
  have kle : k ≤ 576 := by rw [← hk]; unfold mulL; rw [tab_length]; exact hle
  rw [hk]
  have K2 := Lib.hid (K2.out.keep hb K2.out.lt)
  have I2 := Lib.hid hi
  have gl := hi.lt
  have B := Lib.hid (B.out.trans (hb.mono B.out.size))
  clear hb hi hk hg
  go_wp2_with fail
  have ST := sDone R C (some ⟨g, 0, none⟩) k (mulL R K C xs ys) w3 I2.out.rd (by rw [HL.out]; omega)
  rw [HL.out] at ST
  refine ST.mono ?_
  clear ST
  rintro e w4 ⟨rfl, hb⟩
  have K2 := Lib.hid (K2.out.keep hb K2.out.lt)
  have I2 := Lib.hid (I2.out.keep hb I2.out.lt)
  have B := Lib.hid (B.out.trans (hb.mono B.out.size))
  clear hb
  obtain ⟨s0, s1, s2, t0, t1, t2⟩ := K2.out.all
  have z2 := K2.out.lt
  have be : ∀ x y z o, Below w.heap.size w ((((w4.setCell ⟨w.heap.size + 1 + 1, 0, none⟩ x).setCell ⟨w.heap.size + 1 + 1, 1, none⟩ y).setCell ⟨w.heap.size + 1 + 1, 2, none⟩ z).alloc o) := fun x y z o =>
    (((B.out.setCell (by show w.heap.size ≤ w.heap.size + 1 + 1; omega) _).setCell (by show w.heap.size ≤ w.heap.size + 1 + 1; omega) _).setCell (by show w.heap.size ≤ w.heap.size + 1 + 1; omega) _).alloc (by have := B.out.size; simpa using this) _
  have BE := Lib.hid be
  clear be
  rcases Bool.eq_false_or_eq_true (isMat R C (mulL R K C xs ys)) with hd | hd
  · have E : Hid (MR.done R C (mulL R K C xs ys) = ⟨true, R, C, mulL R K C xs ys⟩) := by show MR.done R C (mulL R K C xs ys) = _; unfold MR.done; rw [hd]; rfl
    rw [hd]
    clear hd
    unfold DoneRes
    go_wp2_with fail
    obtain ⟨E0, E1, E2, -, -, -⟩ := ((((K2.out.set0 (.int .i64 R)).set1 (.int .i64 C)).set2 (.slice (some ⟨g, 0, none⟩) k k)).old (.cells #[.int .i64 R, .int .i64 C, .slice (some ⟨g, 0, none⟩) k k] 26)).all
    rw [E.out]
    refine bodyPost_ret (v := .tuple #[.agg #[.int .i64 R, .int .i64 C, .slice (some ⟨g, 0, none⟩) k k], .bool true]) (by simp [results, Try.results23, go_sem, E0, E1, E2]) rfl ⟨_, rfl, ?_, ?_⟩
    · refine .inr ⟨g, k, by rw [HL.out], by omega, ?_, by simp [HL.out], by simp [HL.out]; omega⟩
      exact (((I2.out.far (by show g ≠ w.heap.size + 1 + 1; omega) _).far (by show g ≠ w.heap.size + 1 + 1; omega) _).far (by show g ≠ w.heap.size + 1 + 1; omega) _).old _
    · exact BE.out _ _ _ _
  · have E : Hid (MR.done R C (mulL R K C xs ys) = MR.no) := by show MR.done R C (mulL R K C xs ys) = _; unfold MR.done; rw [hd]; rfl
    rw [hd]
    clear hd
    unfold DoneRes
    go_wp2_with fail
    obtain ⟨E0, E1, E2, -, -, -⟩ := ((((K2.out.set0 (.int .i64 0)).set1 (.int .i64 0)).set2 (.slice none 0 0)).old (.cells #[.int .i64 0, .int .i64 0, .slice none 0 0] 26)).all
    rw [E.out]
    exact bodyPost_ret (v := .tuple #[.agg #[.int .i64 0, .int .i64 0, .slice none 0 0], .bool false]) (by simp [results, Try.results23, go_sem, E0, E1, E2]) rfl ⟨_, rfl, .inl ⟨rfl, rfl⟩, BE.out _ _ _ _⟩
set_option maxHeartbeats 1000000 in
theorem sMul (r c r' c' : Int) (a b : Option Addr) (m n : Nat) (xs ys : List Int) (w : World) (h : Rd w a xs) (h' : Rd w b ys) (hn : xs.length ≤ 16777216) (hn' : ys.length ≤ 16777216) :
    Calls Try.prog 23 #[.agg #[.int .i64 r, .int .i64 c, .slice a xs.length m], .agg #[.int .i64 r', .int .i64 c', .slice b ys.length n]] w (MatRes (mulM r c xs r' c' ys) w) := by
  rcases Bool.eq_false_or_eq_true (isMat r c xs) with hm | hm
  · rcases Bool.eq_false_or_eq_true (isMat r' c' ys) with hm' | hm'
    · by_cases e1 : c = r'
      · subst e1
        obtain ⟨⟨r1, r2⟩, ⟨k1, k2⟩, -, -⟩ := isMat_says hm
        obtain ⟨-, ⟨c1, c2⟩, -, -⟩ := isMat_says hm'
        obtain ⟨R, rfl⟩ := Int.eq_ofNat_of_zero_le r1
        obtain ⟨K, rfl⟩ := Int.eq_ofNat_of_zero_le k1
        obtain ⟨C, rfl⟩ := Int.eq_ofNat_of_zero_le c1
        have E : mulM R K xs K C ys = MR.done R C (mulL R K C xs ys) := by unfold mulM; rw [hm, hm']; simp
        rw [E]
        exact sMul_t R K C a b m n xs ys w h h' hn hn' hm hm'
      · have E : Hid (mulM r c xs r' c' ys = MR.no) := by show mulM r c xs r' c' ys = _; unfold mulM; rw [hm, hm']; simp [e1]
        have n1 : (c == r') = false := by simpa using e1
        have n2 : (c != r') = true := by simpa using e1
        have B0 : ∀ o1 o2 o3, Below w.heap.size w (((w.alloc o1).alloc o2).alloc o3) := fun o1 o2 o3 => (((Below.refl _ _).alloc (Nat.le_refl _) _).alloc (by simp) _).alloc (by simp <;> omega) _
        have BH := Lib.hid B0
        have H := Lib.hid h
        have H' := Lib.hid h'
        clear B0 h h'
        have M := Lib.hid hm
        have M' := Lib.hid hm'
        clear hm hm' e1
        go_enter Try.func23, Try.ntmps23
        go_wp2_with fail
        refine (sIsMat r c a m xs _ (H.out.below (BH.out (.cells #[.int .i64 r, .int .i64 c, .slice a xs.length m] 26) (.cells #[.int .i64 r', .int .i64 c', .slice b ys.length n] 26) (.cells #[.int .i64 0, .int .i64 0, .slice none 0 0] 26))) hn).mono ?_
        rintro e w1 ⟨rfl, hb⟩
        have K0 : Hid (Blk3 w1 w.heap.size 26 (.int .i64 r) (.int .i64 c) (.slice a xs.length m)) := (((Blk3.at_ _ _ _ _ rfl).old _).old _).keep hb (by simp <;> omega)
        have K1 : Hid (Blk3 w1 (w.heap.size + 1) 26 (.int .i64 r') (.int .i64 c') (.slice b ys.length n)) := ((Blk3.at_ _ _ _ _ (by simp)).old _).keep hb (by simp <;> omega)
        have K2 : Hid (Blk3 w1 (w.heap.size + 1 + 1) 26 (.int .i64 0) (.int .i64 0) (.slice none 0 0)) := (Blk3.at_ _ _ _ _ (by simp)).keep hb (by simp)
        have B : Hid (Below w.heap.size w w1) := (BH.out _ _ _).trans (hb.mono (by simp <;> omega))
        clear hb
        obtain ⟨ca0, ca1, ca2, -, -, -⟩ := K0.out.all
        obtain ⟨cb0, cb1, cb2, -, -, -⟩ := K1.out.all
        obtain ⟨cc0, cc1, cc2, ff0, ff1, ff2⟩ := K2.out.all
        rw [M.out]
        go_wp2_with fail
        refine (sIsMat r' c' b n ys _ (H'.out.below B.out) hn').mono ?_
        rintro e w2 ⟨rfl, hb⟩
        have K0 := Lib.hid (K0.out.keep hb K0.out.lt)
        have K1 := Lib.hid (K1.out.keep hb K1.out.lt)
        have K2 := Lib.hid (K2.out.keep hb K2.out.lt)
        have B := Lib.hid (B.out.trans (hb.mono B.out.size))
        clear hb
        obtain ⟨da0, da1, da2, -, -, -⟩ := K0.out.all
        obtain ⟨db0, db1, db2, -, -, -⟩ := K1.out.all
        obtain ⟨dc0, dc1, dc2, gf0, gf1, gf2⟩ := K2.out.all
        rw [M'.out]
        go_wp2_with fail
        obtain ⟨E0, E1, E2, -, -, -⟩ := (((K2.out.set0 (.int .i64 0)).set1 (.int .i64 0)).set2 (.slice none 0 0)).all
        rw [E.out]
        exact bodyPost_ret (v := .tuple #[.agg #[.int .i64 0, .int .i64 0, .slice none 0 0], .bool false]) (by simp [results, Try.results23, go_sem, E0, E1, E2]) rfl ⟨_, rfl, .inl ⟨rfl, rfl⟩, ((B.out.setCell (by show w.heap.size ≤ w.heap.size + 1 + 1; omega) _).setCell (by show w.heap.size ≤ w.heap.size + 1 + 1; omega) _).setCell (by show w.heap.size ≤ w.heap.size + 1 + 1; omega) _⟩
    · have E : Hid (mulM r c xs r' c' ys = MR.no) := by show mulM r c xs r' c' ys = _; unfold mulM; rw [hm, hm']; simp
      have B0 : ∀ o1 o2 o3, Below w.heap.size w (((w.alloc o1).alloc o2).alloc o3) := fun o1 o2 o3 => (((Below.refl _ _).alloc (Nat.le_refl _) _).alloc (by simp) _).alloc (by simp <;> omega) _
      have BH := Lib.hid B0
      have H := Lib.hid h
      have H' := Lib.hid h'
      clear B0 h h'
      have M := Lib.hid hm
      have M' := Lib.hid hm'
      clear hm hm'
      go_enter Try.func23, Try.ntmps23
      go_wp2_with fail
      refine (sIsMat r c a m xs _ (H.out.below (BH.out (.cells #[.int .i64 r, .int .i64 c, .slice a xs.length m] 26) (.cells #[.int .i64 r', .int .i64 c', .slice b ys.length n] 26) (.cells #[.int .i64 0, .int .i64 0, .slice none 0 0] 26))) hn).mono ?_
      rintro e w1 ⟨rfl, hb⟩
      have K0 : Hid (Blk3 w1 w.heap.size 26 (.int .i64 r) (.int .i64 c) (.slice a xs.length m)) := (((Blk3.at_ _ _ _ _ rfl).old _).old _).keep hb (by simp <;> omega)
      have K1 : Hid (Blk3 w1 (w.heap.size + 1) 26 (.int .i64 r') (.int .i64 c') (.slice b ys.length n)) := ((Blk3.at_ _ _ _ _ (by simp)).old _).keep hb (by simp <;> omega)
      have K2 : Hid (Blk3 w1 (w.heap.size + 1 + 1) 26 (.int .i64 0) (.int .i64 0) (.slice none 0 0)) := (Blk3.at_ _ _ _ _ (by simp)).keep hb (by simp)
      have B : Hid (Below w.heap.size w w1) := (BH.out _ _ _).trans (hb.mono (by simp <;> omega))
      clear hb
      obtain ⟨ca0, ca1, ca2, -, -, -⟩ := K0.out.all
      obtain ⟨cb0, cb1, cb2, -, -, -⟩ := K1.out.all
      obtain ⟨cc0, cc1, cc2, ff0, ff1, ff2⟩ := K2.out.all
      rw [M.out]
      go_wp2_with fail
      refine (sIsMat r' c' b n ys _ (H'.out.below B.out) hn').mono ?_
      rintro e w2 ⟨rfl, hb⟩
      have K0 := Lib.hid (K0.out.keep hb K0.out.lt)
      have K1 := Lib.hid (K1.out.keep hb K1.out.lt)
      have K2 := Lib.hid (K2.out.keep hb K2.out.lt)
      have B := Lib.hid (B.out.trans (hb.mono B.out.size))
      clear hb
      obtain ⟨da0, da1, da2, -, -, -⟩ := K0.out.all
      obtain ⟨db0, db1, db2, -, -, -⟩ := K1.out.all
      obtain ⟨dc0, dc1, dc2, gf0, gf1, gf2⟩ := K2.out.all
      rw [M'.out]
      go_wp2_with fail
      obtain ⟨E0, E1, E2, -, -, -⟩ := (((K2.out.set0 (.int .i64 0)).set1 (.int .i64 0)).set2 (.slice none 0 0)).all
      rw [E.out]
      exact bodyPost_ret (v := .tuple #[.agg #[.int .i64 0, .int .i64 0, .slice none 0 0], .bool false]) (by simp [results, Try.results23, go_sem, E0, E1, E2]) rfl ⟨_, rfl, .inl ⟨rfl, rfl⟩, ((B.out.setCell (by show w.heap.size ≤ w.heap.size + 1 + 1; omega) _).setCell (by show w.heap.size ≤ w.heap.size + 1 + 1; omega) _).setCell (by show w.heap.size ≤ w.heap.size + 1 + 1; omega) _⟩
  · have E : Hid (mulM r c xs r' c' ys = MR.no) := by show mulM r c xs r' c' ys = _; unfold mulM; rw [hm]; simp
    have B0 : ∀ o1 o2 o3, Below w.heap.size w (((w.alloc o1).alloc o2).alloc o3) := fun o1 o2 o3 => (((Below.refl _ _).alloc (Nat.le_refl _) _).alloc (by simp) _).alloc (by simp <;> omega) _
    have BH := Lib.hid B0
    have H := Lib.hid h
    have H' := Lib.hid h'
    clear B0 h h'
    have M := Lib.hid hm
    clear hm hn'
    go_enter Try.func23, Try.ntmps23
    go_wp2_with fail
    refine (sIsMat r c a m xs _ (H.out.below (BH.out (.cells #[.int .i64 r, .int .i64 c, .slice a xs.length m] 26) (.cells #[.int .i64 r', .int .i64 c', .slice b ys.length n] 26) (.cells #[.int .i64 0, .int .i64 0, .slice none 0 0] 26))) hn).mono ?_
    rintro e w1 ⟨rfl, hb⟩
    have K0 : Hid (Blk3 w1 w.heap.size 26 (.int .i64 r) (.int .i64 c) (.slice a xs.length m)) := (((Blk3.at_ _ _ _ _ rfl).old _).old _).keep hb (by simp <;> omega)
    have K1 : Hid (Blk3 w1 (w.heap.size + 1) 26 (.int .i64 r') (.int .i64 c') (.slice b ys.length n)) := ((Blk3.at_ _ _ _ _ (by simp)).old _).keep hb (by simp <;> omega)
    have K2 : Hid (Blk3 w1 (w.heap.size + 1 + 1) 26 (.int .i64 0) (.int .i64 0) (.slice none 0 0)) := (Blk3.at_ _ _ _ _ (by simp)).keep hb (by simp)
    have B : Hid (Below w.heap.size w w1) := (BH.out _ _ _).trans (hb.mono (by simp <;> omega))
    clear hb
    obtain ⟨ca0, ca1, ca2, -, -, -⟩ := K0.out.all
    obtain ⟨cb0, cb1, cb2, -, -, -⟩ := K1.out.all
    obtain ⟨cc0, cc1, cc2, ff0, ff1, ff2⟩ := K2.out.all
    rw [M.out]
    go_wp2_with fail
    obtain ⟨E0, E1, E2, -, -, -⟩ := (((K2.out.set0 (.int .i64 0)).set1 (.int .i64 0)).set2 (.slice none 0 0)).all
    rw [E.out]
    exact bodyPost_ret (v := .tuple #[.agg #[.int .i64 0, .int .i64 0, .slice none 0 0], .bool false]) (by simp [results, Try.results23, go_sem, E0, E1, E2]) rfl ⟨_, rfl, .inl ⟨rfl, rfl⟩, ((B.out.setCell (by show w.heap.size ≤ w.heap.size + 1 + 1; omega) _).setCell (by show w.heap.size ≤ w.heap.size + 1 + 1; omega) _).setCell (by show w.heap.size ≤ w.heap.size + 1 + 1; omega) _⟩
end Go.Proofs.Ytpladgojeijihaa
