/-
  Chapter 2, in the program: sums, products, quotients.
-/
import Derived.Test.YtgoephocgefokaaRatI2
import Derived.Test.YtgoephocgefokaaRatOpS
namespace Go.Proofs.Ytgoephocgefokaa
open Go.RowKit

set_option maxHeartbeats 800000 in
theorem iAdd (a b c d : Int) (w : World) : Calls Try.prog 23 #[.agg #[.int .i64 a, .int .i64 b], .agg #[.int .i64 c, .int .i64 d]] w (Gives (ratV (addR a b c d)) w) := by
  rcases Bool.eq_false_or_eq_true (isRat a b) with ha | ha
  · rcases Bool.eq_false_or_eq_true (isRat c d) with hc | hc
    · have L : Hid (addR a b c d = low (a * d + c * b) (b * d)) := by show addR a b c d = _; unfold addR; rw [ha, hc]; rfl
      have pa := isRat_in (of_decide_eq_true ha)
      have pc := isRat_in (of_decide_eq_true hc)
      obtain ⟨m1, m2⟩ := mul_sm a d pa.1 pc.2
      obtain ⟨m3, m4⟩ := mul_sm c b pc.1 pa.2
      obtain ⟨m5, m6⟩ := mul_sm b d pa.2 pc.2
      obtain ⟨m7, m8⟩ := mul_sm a c pa.1 pc.1
      obtain ⟨m9, m10⟩ := mul_sm b c pa.2 pc.1
      go_enter Try.func23, Try.ntmps23
      go_wp2_with fail
      refine (iIsRat a b _).mono ?_
      rintro e w1 ⟨rfl, hb⟩
      have K0 : Hid (Blk2 w1 w.heap.size 25 (.int .i64 a) (.int .i64 b)) := (((Blk2.at_ _ _ _ rfl).old _).old _).keep hb (by simp <;> omega)
      have K1 : Hid (Blk2 w1 (w.heap.size + 1) 25 (.int .i64 c) (.int .i64 d)) := ((Blk2.at_ _ _ _ (by simp)).old _).keep hb (by simp <;> omega)
      have K2 : Hid (Blk2 w1 (w.heap.size + 1 + 1) 25 (.int .i64 0) (.int .i64 0)) := (Blk2.at_ _ _ _ (by simp)).keep hb (by simp <;> omega)
      have B : Hid (Below w.heap.size w w1) := Below.trans (by repeat (first | exact Below.refl _ _ | refine Below.alloc ?_ (by simp <;> omega) _)) (hb.mono (by simp <;> omega))
      obtain ⟨K0a1, K0b1, K0c1, K0d1⟩ := K0.out.all
      obtain ⟨K1a1, K1b1, K1c1, K1d1⟩ := K1.out.all
      obtain ⟨K2a1, K2b1, K2c1, K2d1⟩ := K2.out.all
      clear hb
      rw [ha]
      go_wp2_with fail
      refine (iIsRat c d _).mono ?_
      rintro e w2 ⟨rfl, hb⟩
      have K0 : Hid (Blk2 w2 w.heap.size 25 (.int .i64 a) (.int .i64 b)) := K0.out.keep hb K0.out.lt
      have K1 : Hid (Blk2 w2 (w.heap.size + 1) 25 (.int .i64 c) (.int .i64 d)) := K1.out.keep hb K1.out.lt
      have K2 : Hid (Blk2 w2 (w.heap.size + 1 + 1) 25 (.int .i64 0) (.int .i64 0)) := K2.out.keep hb K2.out.lt
      have B := Lib.hid (B.out.trans (hb.mono B.out.size))
      obtain ⟨K0a2, K0b2, K0c2, K0d2⟩ := K0.out.all
      obtain ⟨K1a2, K1b2, K1c2, K1d2⟩ := K1.out.all
      obtain ⟨K2a2, K2b2, K2c2, K2d2⟩ := K2.out.all
      clear hb
      rw [hc]
      go_wp2_with fail
      refine (iLowA (a * d + c * b) (b * d) _ (by omega) (by omega)).mono ?_
      rintro e w3 ⟨rfl, hb⟩
      have K2 : Hid (Blk2 w3 (w.heap.size + 1 + 1) 25 (.int .i64 0) (.int .i64 0)) := K2.out.keep hb K2.out.lt
      have B := Lib.hid (B.out.trans (hb.mono B.out.size))
      obtain ⟨K2a3, K2b3, K2c3, K2d3⟩ := K2.out.all
      clear hb
      unfold ratV
      go_wp2_with fail
      obtain ⟨E0, E1, -, -⟩ := ((K2.out.set0 (.int .i64 (low (a * d + c * b) (b * d)).1)).set1 (.int .i64 (low (a * d + c * b) (b * d)).2)).all
      refine bodyPost_ret (v := ratV (low (a * d + c * b) (b * d))) (by simp [results, Try.results23, go_sem, E0, E1, ratV]) rfl ⟨by rw [L.out], ?_⟩
      exact (B.out.setCell (by show w.heap.size ≤ w.heap.size + 1 + 1; omega) _).setCell (by show w.heap.size ≤ w.heap.size + 1 + 1; omega) _
    · have L : Hid (addR a b c d = (0, 0)) := by show addR a b c d = _; unfold addR; rw [ha, hc]; rfl
      go_enter Try.func23, Try.ntmps23
      go_wp2_with fail
      refine (iIsRat a b _).mono ?_
      rintro e w1 ⟨rfl, hb⟩
      have K0 : Hid (Blk2 w1 w.heap.size 25 (.int .i64 a) (.int .i64 b)) := (((Blk2.at_ _ _ _ rfl).old _).old _).keep hb (by simp <;> omega)
      have K1 : Hid (Blk2 w1 (w.heap.size + 1) 25 (.int .i64 c) (.int .i64 d)) := ((Blk2.at_ _ _ _ (by simp)).old _).keep hb (by simp <;> omega)
      have K2 : Hid (Blk2 w1 (w.heap.size + 1 + 1) 25 (.int .i64 0) (.int .i64 0)) := (Blk2.at_ _ _ _ (by simp)).keep hb (by simp <;> omega)
      have B : Hid (Below w.heap.size w w1) := Below.trans (by repeat (first | exact Below.refl _ _ | refine Below.alloc ?_ (by simp <;> omega) _)) (hb.mono (by simp <;> omega))
      obtain ⟨K0a1, K0b1, K0c1, K0d1⟩ := K0.out.all
      obtain ⟨K1a1, K1b1, K1c1, K1d1⟩ := K1.out.all
      obtain ⟨K2a1, K2b1, K2c1, K2d1⟩ := K2.out.all
      clear hb
      rw [ha]
      go_wp2_with fail
      refine (iIsRat c d _).mono ?_
      rintro e w2 ⟨rfl, hb⟩
      have K0 : Hid (Blk2 w2 w.heap.size 25 (.int .i64 a) (.int .i64 b)) := K0.out.keep hb K0.out.lt
      have K1 : Hid (Blk2 w2 (w.heap.size + 1) 25 (.int .i64 c) (.int .i64 d)) := K1.out.keep hb K1.out.lt
      have K2 : Hid (Blk2 w2 (w.heap.size + 1 + 1) 25 (.int .i64 0) (.int .i64 0)) := K2.out.keep hb K2.out.lt
      have B := Lib.hid (B.out.trans (hb.mono B.out.size))
      obtain ⟨K0a2, K0b2, K0c2, K0d2⟩ := K0.out.all
      obtain ⟨K1a2, K1b2, K1c2, K1d2⟩ := K1.out.all
      obtain ⟨K2a2, K2b2, K2c2, K2d2⟩ := K2.out.all
      clear hb
      rw [hc]
      go_wp2_with fail
      obtain ⟨E0, E1, -, -⟩ := ((K2.out.set0 (.int .i64 0)).set1 (.int .i64 0)).all
      refine bodyPost_ret (v := ratV (0, 0)) (by simp [results, Try.results23, go_sem, E0, E1, ratV]) rfl ⟨by rw [L.out], ?_⟩
      exact (B.out.setCell (by show w.heap.size ≤ w.heap.size + 1 + 1; omega) _).setCell (by show w.heap.size ≤ w.heap.size + 1 + 1; omega) _
  · have L : Hid (addR a b c d = (0, 0)) := by show addR a b c d = _; unfold addR; rw [ha]; rfl
    go_enter Try.func23, Try.ntmps23
    go_wp2_with fail
    refine (iIsRat a b _).mono ?_
    rintro e w1 ⟨rfl, hb⟩
    have K0 : Hid (Blk2 w1 w.heap.size 25 (.int .i64 a) (.int .i64 b)) := (((Blk2.at_ _ _ _ rfl).old _).old _).keep hb (by simp <;> omega)
    have K1 : Hid (Blk2 w1 (w.heap.size + 1) 25 (.int .i64 c) (.int .i64 d)) := ((Blk2.at_ _ _ _ (by simp)).old _).keep hb (by simp <;> omega)
    have K2 : Hid (Blk2 w1 (w.heap.size + 1 + 1) 25 (.int .i64 0) (.int .i64 0)) := (Blk2.at_ _ _ _ (by simp)).keep hb (by simp <;> omega)
    have B : Hid (Below w.heap.size w w1) := Below.trans (by repeat (first | exact Below.refl _ _ | refine Below.alloc ?_ (by simp <;> omega) _)) (hb.mono (by simp <;> omega))
    obtain ⟨K0a1, K0b1, K0c1, K0d1⟩ := K0.out.all
    obtain ⟨K1a1, K1b1, K1c1, K1d1⟩ := K1.out.all
    obtain ⟨K2a1, K2b1, K2c1, K2d1⟩ := K2.out.all
    clear hb
    rw [ha]
    go_wp2_with fail
    obtain ⟨E0, E1, -, -⟩ := ((K2.out.set0 (.int .i64 0)).set1 (.int .i64 0)).all
    refine bodyPost_ret (v := ratV (0, 0)) (by simp [results, Try.results23, go_sem, E0, E1, ratV]) rfl ⟨by rw [L.out], ?_⟩
    exact (B.out.setCell (by show w.heap.size ≤ w.heap.size + 1 + 1; omega) _).setCell (by show w.heap.size ≤ w.heap.size + 1 + 1; omega) _

set_option maxHeartbeats 800000 in
theorem iMul (a b c d : Int) (w : World) : Calls Try.prog 27 #[.agg #[.int .i64 a, .int .i64 b], .agg #[.int .i64 c, .int .i64 d]] w (Gives (ratV (mulR a b c d)) w) := by
  rcases Bool.eq_false_or_eq_true (isRat a b) with ha | ha
  · rcases Bool.eq_false_or_eq_true (isRat c d) with hc | hc
    · have L : Hid (mulR a b c d = low (a * c) (b * d)) := by show mulR a b c d = _; unfold mulR; rw [ha, hc]; rfl
      have pa := isRat_in (of_decide_eq_true ha)
      have pc := isRat_in (of_decide_eq_true hc)
      obtain ⟨m1, m2⟩ := mul_sm a d pa.1 pc.2
      obtain ⟨m3, m4⟩ := mul_sm c b pc.1 pa.2
      obtain ⟨m5, m6⟩ := mul_sm b d pa.2 pc.2
      obtain ⟨m7, m8⟩ := mul_sm a c pa.1 pc.1
      obtain ⟨m9, m10⟩ := mul_sm b c pa.2 pc.1
      go_enter Try.func27, Try.ntmps27
      go_wp2_with fail
      refine (iIsRat a b _).mono ?_
      rintro e w1 ⟨rfl, hb⟩
      have K0 : Hid (Blk2 w1 w.heap.size 25 (.int .i64 a) (.int .i64 b)) := (((Blk2.at_ _ _ _ rfl).old _).old _).keep hb (by simp <;> omega)
      have K1 : Hid (Blk2 w1 (w.heap.size + 1) 25 (.int .i64 c) (.int .i64 d)) := ((Blk2.at_ _ _ _ (by simp)).old _).keep hb (by simp <;> omega)
      have K2 : Hid (Blk2 w1 (w.heap.size + 1 + 1) 25 (.int .i64 0) (.int .i64 0)) := (Blk2.at_ _ _ _ (by simp)).keep hb (by simp <;> omega)
      have B : Hid (Below w.heap.size w w1) := Below.trans (by repeat (first | exact Below.refl _ _ | refine Below.alloc ?_ (by simp <;> omega) _)) (hb.mono (by simp <;> omega))
      obtain ⟨K0a1, K0b1, K0c1, K0d1⟩ := K0.out.all
      obtain ⟨K1a1, K1b1, K1c1, K1d1⟩ := K1.out.all
      obtain ⟨K2a1, K2b1, K2c1, K2d1⟩ := K2.out.all
      clear hb
      rw [ha]
      go_wp2_with fail
      refine (iIsRat c d _).mono ?_
      rintro e w2 ⟨rfl, hb⟩
      have K0 : Hid (Blk2 w2 w.heap.size 25 (.int .i64 a) (.int .i64 b)) := K0.out.keep hb K0.out.lt
      have K1 : Hid (Blk2 w2 (w.heap.size + 1) 25 (.int .i64 c) (.int .i64 d)) := K1.out.keep hb K1.out.lt
      have K2 : Hid (Blk2 w2 (w.heap.size + 1 + 1) 25 (.int .i64 0) (.int .i64 0)) := K2.out.keep hb K2.out.lt
      have B := Lib.hid (B.out.trans (hb.mono B.out.size))
      obtain ⟨K0a2, K0b2, K0c2, K0d2⟩ := K0.out.all
      obtain ⟨K1a2, K1b2, K1c2, K1d2⟩ := K1.out.all
      obtain ⟨K2a2, K2b2, K2c2, K2d2⟩ := K2.out.all
      clear hb
      rw [hc]
      go_wp2_with fail
      refine (iLowA (a * c) (b * d) _ (by omega) (by omega)).mono ?_
      rintro e w3 ⟨rfl, hb⟩
      have K2 : Hid (Blk2 w3 (w.heap.size + 1 + 1) 25 (.int .i64 0) (.int .i64 0)) := K2.out.keep hb K2.out.lt
      have B := Lib.hid (B.out.trans (hb.mono B.out.size))
      obtain ⟨K2a3, K2b3, K2c3, K2d3⟩ := K2.out.all
      clear hb
      unfold ratV
      go_wp2_with fail
      obtain ⟨E0, E1, -, -⟩ := ((K2.out.set0 (.int .i64 (low (a * c) (b * d)).1)).set1 (.int .i64 (low (a * c) (b * d)).2)).all
      refine bodyPost_ret (v := ratV (low (a * c) (b * d))) (by simp [results, Try.results27, go_sem, E0, E1, ratV]) rfl ⟨by rw [L.out], ?_⟩
      exact (B.out.setCell (by show w.heap.size ≤ w.heap.size + 1 + 1; omega) _).setCell (by show w.heap.size ≤ w.heap.size + 1 + 1; omega) _
    · have L : Hid (mulR a b c d = (0, 0)) := by show mulR a b c d = _; unfold mulR; rw [ha, hc]; rfl
      go_enter Try.func27, Try.ntmps27
      go_wp2_with fail
      refine (iIsRat a b _).mono ?_
      rintro e w1 ⟨rfl, hb⟩
      have K0 : Hid (Blk2 w1 w.heap.size 25 (.int .i64 a) (.int .i64 b)) := (((Blk2.at_ _ _ _ rfl).old _).old _).keep hb (by simp <;> omega)
      have K1 : Hid (Blk2 w1 (w.heap.size + 1) 25 (.int .i64 c) (.int .i64 d)) := ((Blk2.at_ _ _ _ (by simp)).old _).keep hb (by simp <;> omega)
      have K2 : Hid (Blk2 w1 (w.heap.size + 1 + 1) 25 (.int .i64 0) (.int .i64 0)) := (Blk2.at_ _ _ _ (by simp)).keep hb (by simp <;> omega)
      have B : Hid (Below w.heap.size w w1) := Below.trans (by repeat (first | exact Below.refl _ _ | refine Below.alloc ?_ (by simp <;> omega) _)) (hb.mono (by simp <;> omega))
      obtain ⟨K0a1, K0b1, K0c1, K0d1⟩ := K0.out.all
      obtain ⟨K1a1, K1b1, K1c1, K1d1⟩ := K1.out.all
      obtain ⟨K2a1, K2b1, K2c1, K2d1⟩ := K2.out.all
      clear hb
      rw [ha]
      go_wp2_with fail
      refine (iIsRat c d _).mono ?_
      rintro e w2 ⟨rfl, hb⟩
      have K0 : Hid (Blk2 w2 w.heap.size 25 (.int .i64 a) (.int .i64 b)) := K0.out.keep hb K0.out.lt
      have K1 : Hid (Blk2 w2 (w.heap.size + 1) 25 (.int .i64 c) (.int .i64 d)) := K1.out.keep hb K1.out.lt
      have K2 : Hid (Blk2 w2 (w.heap.size + 1 + 1) 25 (.int .i64 0) (.int .i64 0)) := K2.out.keep hb K2.out.lt
      have B := Lib.hid (B.out.trans (hb.mono B.out.size))
      obtain ⟨K0a2, K0b2, K0c2, K0d2⟩ := K0.out.all
      obtain ⟨K1a2, K1b2, K1c2, K1d2⟩ := K1.out.all
      obtain ⟨K2a2, K2b2, K2c2, K2d2⟩ := K2.out.all
      clear hb
      rw [hc]
      go_wp2_with fail
      obtain ⟨E0, E1, -, -⟩ := ((K2.out.set0 (.int .i64 0)).set1 (.int .i64 0)).all
      refine bodyPost_ret (v := ratV (0, 0)) (by simp [results, Try.results27, go_sem, E0, E1, ratV]) rfl ⟨by rw [L.out], ?_⟩
      exact (B.out.setCell (by show w.heap.size ≤ w.heap.size + 1 + 1; omega) _).setCell (by show w.heap.size ≤ w.heap.size + 1 + 1; omega) _
  · have L : Hid (mulR a b c d = (0, 0)) := by show mulR a b c d = _; unfold mulR; rw [ha]; rfl
    go_enter Try.func27, Try.ntmps27
    go_wp2_with fail
    refine (iIsRat a b _).mono ?_
    rintro e w1 ⟨rfl, hb⟩
    have K0 : Hid (Blk2 w1 w.heap.size 25 (.int .i64 a) (.int .i64 b)) := (((Blk2.at_ _ _ _ rfl).old _).old _).keep hb (by simp <;> omega)
    have K1 : Hid (Blk2 w1 (w.heap.size + 1) 25 (.int .i64 c) (.int .i64 d)) := ((Blk2.at_ _ _ _ (by simp)).old _).keep hb (by simp <;> omega)
    have K2 : Hid (Blk2 w1 (w.heap.size + 1 + 1) 25 (.int .i64 0) (.int .i64 0)) := (Blk2.at_ _ _ _ (by simp)).keep hb (by simp <;> omega)
    have B : Hid (Below w.heap.size w w1) := Below.trans (by repeat (first | exact Below.refl _ _ | refine Below.alloc ?_ (by simp <;> omega) _)) (hb.mono (by simp <;> omega))
    obtain ⟨K0a1, K0b1, K0c1, K0d1⟩ := K0.out.all
    obtain ⟨K1a1, K1b1, K1c1, K1d1⟩ := K1.out.all
    obtain ⟨K2a1, K2b1, K2c1, K2d1⟩ := K2.out.all
    clear hb
    rw [ha]
    go_wp2_with fail
    obtain ⟨E0, E1, -, -⟩ := ((K2.out.set0 (.int .i64 0)).set1 (.int .i64 0)).all
    refine bodyPost_ret (v := ratV (0, 0)) (by simp [results, Try.results27, go_sem, E0, E1, ratV]) rfl ⟨by rw [L.out], ?_⟩
    exact (B.out.setCell (by show w.heap.size ≤ w.heap.size + 1 + 1; omega) _).setCell (by show w.heap.size ≤ w.heap.size + 1 + 1; omega) _

set_option maxHeartbeats 800000 in
theorem iDivR (a b c d : Int) (w : World) : Calls Try.prog 29 #[.agg #[.int .i64 a, .int .i64 b], .agg #[.int .i64 c, .int .i64 d]] w (Gives (ratV (divR a b c d)) w) := by
  rcases Bool.eq_false_or_eq_true (isRat a b) with ha | ha
  · rcases Bool.eq_false_or_eq_true (isRat c d) with hc | hc
    · have L : Hid (divR a b c d = low (a * d) (b * c)) := by show divR a b c d = _; unfold divR; rw [ha, hc]; rfl
      have pa := isRat_in (of_decide_eq_true ha)
      have pc := isRat_in (of_decide_eq_true hc)
      obtain ⟨m1, m2⟩ := mul_sm a d pa.1 pc.2
      obtain ⟨m3, m4⟩ := mul_sm c b pc.1 pa.2
      obtain ⟨m5, m6⟩ := mul_sm b d pa.2 pc.2
      obtain ⟨m7, m8⟩ := mul_sm a c pa.1 pc.1
      obtain ⟨m9, m10⟩ := mul_sm b c pa.2 pc.1
      go_enter Try.func29, Try.ntmps29
      go_wp2_with fail
      refine (iIsRat a b _).mono ?_
      rintro e w1 ⟨rfl, hb⟩
      have K0 : Hid (Blk2 w1 w.heap.size 25 (.int .i64 a) (.int .i64 b)) := (((Blk2.at_ _ _ _ rfl).old _).old _).keep hb (by simp <;> omega)
      have K1 : Hid (Blk2 w1 (w.heap.size + 1) 25 (.int .i64 c) (.int .i64 d)) := ((Blk2.at_ _ _ _ (by simp)).old _).keep hb (by simp <;> omega)
      have K2 : Hid (Blk2 w1 (w.heap.size + 1 + 1) 25 (.int .i64 0) (.int .i64 0)) := (Blk2.at_ _ _ _ (by simp)).keep hb (by simp <;> omega)
      have B : Hid (Below w.heap.size w w1) := Below.trans (by repeat (first | exact Below.refl _ _ | refine Below.alloc ?_ (by simp <;> omega) _)) (hb.mono (by simp <;> omega))
      obtain ⟨K0a1, K0b1, K0c1, K0d1⟩ := K0.out.all
      obtain ⟨K1a1, K1b1, K1c1, K1d1⟩ := K1.out.all
      obtain ⟨K2a1, K2b1, K2c1, K2d1⟩ := K2.out.all
      clear hb
      rw [ha]
      go_wp2_with fail
      refine (iIsRat c d _).mono ?_
      rintro e w2 ⟨rfl, hb⟩
      have K0 : Hid (Blk2 w2 w.heap.size 25 (.int .i64 a) (.int .i64 b)) := K0.out.keep hb K0.out.lt
      have K1 : Hid (Blk2 w2 (w.heap.size + 1) 25 (.int .i64 c) (.int .i64 d)) := K1.out.keep hb K1.out.lt
      have K2 : Hid (Blk2 w2 (w.heap.size + 1 + 1) 25 (.int .i64 0) (.int .i64 0)) := K2.out.keep hb K2.out.lt
      have B := Lib.hid (B.out.trans (hb.mono B.out.size))
      obtain ⟨K0a2, K0b2, K0c2, K0d2⟩ := K0.out.all
      obtain ⟨K1a2, K1b2, K1c2, K1d2⟩ := K1.out.all
      obtain ⟨K2a2, K2b2, K2c2, K2d2⟩ := K2.out.all
      clear hb
      rw [hc]
      go_wp2_with fail
      refine (iLowA (a * d) (b * c) _ (by omega) (by omega)).mono ?_
      rintro e w3 ⟨rfl, hb⟩
      have K2 : Hid (Blk2 w3 (w.heap.size + 1 + 1) 25 (.int .i64 0) (.int .i64 0)) := K2.out.keep hb K2.out.lt
      have B := Lib.hid (B.out.trans (hb.mono B.out.size))
      obtain ⟨K2a3, K2b3, K2c3, K2d3⟩ := K2.out.all
      clear hb
      unfold ratV
      go_wp2_with fail
      obtain ⟨E0, E1, -, -⟩ := ((K2.out.set0 (.int .i64 (low (a * d) (b * c)).1)).set1 (.int .i64 (low (a * d) (b * c)).2)).all
      refine bodyPost_ret (v := ratV (low (a * d) (b * c))) (by simp [results, Try.results29, go_sem, E0, E1, ratV]) rfl ⟨by rw [L.out], ?_⟩
      exact (B.out.setCell (by show w.heap.size ≤ w.heap.size + 1 + 1; omega) _).setCell (by show w.heap.size ≤ w.heap.size + 1 + 1; omega) _
    · have L : Hid (divR a b c d = (0, 0)) := by show divR a b c d = _; unfold divR; rw [ha, hc]; rfl
      go_enter Try.func29, Try.ntmps29
      go_wp2_with fail
      refine (iIsRat a b _).mono ?_
      rintro e w1 ⟨rfl, hb⟩
      have K0 : Hid (Blk2 w1 w.heap.size 25 (.int .i64 a) (.int .i64 b)) := (((Blk2.at_ _ _ _ rfl).old _).old _).keep hb (by simp <;> omega)
      have K1 : Hid (Blk2 w1 (w.heap.size + 1) 25 (.int .i64 c) (.int .i64 d)) := ((Blk2.at_ _ _ _ (by simp)).old _).keep hb (by simp <;> omega)
      have K2 : Hid (Blk2 w1 (w.heap.size + 1 + 1) 25 (.int .i64 0) (.int .i64 0)) := (Blk2.at_ _ _ _ (by simp)).keep hb (by simp <;> omega)
      have B : Hid (Below w.heap.size w w1) := Below.trans (by repeat (first | exact Below.refl _ _ | refine Below.alloc ?_ (by simp <;> omega) _)) (hb.mono (by simp <;> omega))
      obtain ⟨K0a1, K0b1, K0c1, K0d1⟩ := K0.out.all
      obtain ⟨K1a1, K1b1, K1c1, K1d1⟩ := K1.out.all
      obtain ⟨K2a1, K2b1, K2c1, K2d1⟩ := K2.out.all
      clear hb
      rw [ha]
      go_wp2_with fail
      refine (iIsRat c d _).mono ?_
      rintro e w2 ⟨rfl, hb⟩
      have K0 : Hid (Blk2 w2 w.heap.size 25 (.int .i64 a) (.int .i64 b)) := K0.out.keep hb K0.out.lt
      have K1 : Hid (Blk2 w2 (w.heap.size + 1) 25 (.int .i64 c) (.int .i64 d)) := K1.out.keep hb K1.out.lt
      have K2 : Hid (Blk2 w2 (w.heap.size + 1 + 1) 25 (.int .i64 0) (.int .i64 0)) := K2.out.keep hb K2.out.lt
      have B := Lib.hid (B.out.trans (hb.mono B.out.size))
      obtain ⟨K0a2, K0b2, K0c2, K0d2⟩ := K0.out.all
      obtain ⟨K1a2, K1b2, K1c2, K1d2⟩ := K1.out.all
      obtain ⟨K2a2, K2b2, K2c2, K2d2⟩ := K2.out.all
      clear hb
      rw [hc]
      go_wp2_with fail
      obtain ⟨E0, E1, -, -⟩ := ((K2.out.set0 (.int .i64 0)).set1 (.int .i64 0)).all
      refine bodyPost_ret (v := ratV (0, 0)) (by simp [results, Try.results29, go_sem, E0, E1, ratV]) rfl ⟨by rw [L.out], ?_⟩
      exact (B.out.setCell (by show w.heap.size ≤ w.heap.size + 1 + 1; omega) _).setCell (by show w.heap.size ≤ w.heap.size + 1 + 1; omega) _
  · have L : Hid (divR a b c d = (0, 0)) := by show divR a b c d = _; unfold divR; rw [ha]; rfl
    go_enter Try.func29, Try.ntmps29
    go_wp2_with fail
    refine (iIsRat a b _).mono ?_
    rintro e w1 ⟨rfl, hb⟩
    have K0 : Hid (Blk2 w1 w.heap.size 25 (.int .i64 a) (.int .i64 b)) := (((Blk2.at_ _ _ _ rfl).old _).old _).keep hb (by simp <;> omega)
    have K1 : Hid (Blk2 w1 (w.heap.size + 1) 25 (.int .i64 c) (.int .i64 d)) := ((Blk2.at_ _ _ _ (by simp)).old _).keep hb (by simp <;> omega)
    have K2 : Hid (Blk2 w1 (w.heap.size + 1 + 1) 25 (.int .i64 0) (.int .i64 0)) := (Blk2.at_ _ _ _ (by simp)).keep hb (by simp <;> omega)
    have B : Hid (Below w.heap.size w w1) := Below.trans (by repeat (first | exact Below.refl _ _ | refine Below.alloc ?_ (by simp <;> omega) _)) (hb.mono (by simp <;> omega))
    obtain ⟨K0a1, K0b1, K0c1, K0d1⟩ := K0.out.all
    obtain ⟨K1a1, K1b1, K1c1, K1d1⟩ := K1.out.all
    obtain ⟨K2a1, K2b1, K2c1, K2d1⟩ := K2.out.all
    clear hb
    rw [ha]
    go_wp2_with fail
    obtain ⟨E0, E1, -, -⟩ := ((K2.out.set0 (.int .i64 0)).set1 (.int .i64 0)).all
    refine bodyPost_ret (v := ratV (0, 0)) (by simp [results, Try.results29, go_sem, E0, E1, ratV]) rfl ⟨by rw [L.out], ?_⟩
    exact (B.out.setCell (by show w.heap.size ≤ w.heap.size + 1 + 1; omega) _).setCell (by show w.heap.size ≤ w.heap.size + 1 + 1; omega) _

end Go.Proofs.Ytgoephocgefokaa
