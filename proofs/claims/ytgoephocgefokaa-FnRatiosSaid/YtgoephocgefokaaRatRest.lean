/-
  Chapter 2, in the model and in the program: negation, comparison, rounding.
-/
import Derived.Test.YtgoephocgefokaaRatI2
import Derived.Test.YtgoephocgefokaaNumFloor
import Derived.Test.YtgoephocgefokaaNumIDiv
namespace Go.Proofs.Ytgoephocgefokaa
open Go.RowKit

def negR (a b : Int) : Int × Int := if isRat a b = true then (-a, b) else (0, 0)
def cmpR (a b c d : Int) : Int := if (isRat a b && isRat c d) = true then cmpI (a * d) (c * b) else 2
def floorR (a b : Int) : Int := if isRat a b = true then a / b else 0
def roundR (a b : Int) : Int := if isRat a b = true then (2 * a + b) / (2 * b) else 0

theorem iCmp (x y : Int) (w : World) : Calls Try.prog 50 #[.int .i64 x, .int .i64 y] w fun e w' => e = .returned (.int .i64 (cmpI x y)) ∧ w = w' := by
  rcases Int.lt_trichotomy x y with h | h | h
  · have L : Hid (cmpI x y = -1) := by show cmpI x y = _; unfold cmpI; rw [if_pos h]
    go_enter Try.func50, Try.ntmps50
    go_wp2
    go_ret
    exact ⟨by rw [L.out]; rfl, rfl⟩
  · subst h
    have L : Hid (cmpI x x = 0) := by show cmpI x x = _; unfold cmpI; rw [if_neg (by omega), if_neg (by omega)]
    go_enter Try.func50, Try.ntmps50
    go_wp2
    go_ret
    exact ⟨by rw [L.out]; rfl, rfl⟩
  · have L : Hid (cmpI x y = 1) := by show cmpI x y = _; unfold cmpI; rw [if_neg (by omega), if_pos h]
    go_enter Try.func50, Try.ntmps50
    go_wp2
    go_ret
    exact ⟨by rw [L.out]; rfl, rfl⟩

theorem sNeg (a b : Int) (w : World) : Calls Try.prog 24 #[.agg #[.int .i64 a, .int .i64 b]] w (Gives (ratV (negR a b)) w) := by
  rcases Bool.eq_false_or_eq_true (isRat a b) with ha | ha
  · have L : Hid (negR a b = (-a, b)) := by show negR a b = _; unfold negR; rw [ha]; rfl
    obtain ⟨⟨pa1, pa2⟩, pb1, pb2⟩ := isRat_in (of_decide_eq_true ha)
    go_enter Try.func24, Try.ntmps24
    go_wp2_with fail
    refine (sIsRat a b _).mono ?_
    rintro e w1 ⟨rfl, hb⟩
    have K0 : Hid (Blk2 w1 w.heap.size 25 (.int .i64 a) (.int .i64 b)) := ((Blk2.at_ _ _ _ rfl).old _).keep hb (by simp <;> omega)
    have K1 : Hid (Blk2 w1 (w.heap.size + 1) 25 (.int .i64 0) (.int .i64 0)) := (Blk2.at_ _ _ _ (by simp)).keep hb (by simp <;> omega)
    have B : Hid (Below w.heap.size w w1) := Below.trans (by repeat (first | exact Below.refl _ _ | refine Below.alloc ?_ (by simp <;> omega) _)) (hb.mono (by simp <;> omega))
    obtain ⟨K0a1, K0b1, K0c1, K0d1⟩ := K0.out.all
    obtain ⟨K1a1, K1b1, K1c1, K1d1⟩ := K1.out.all
    clear hb
    rw [ha]
    go_wp2_with fail
    obtain ⟨E0, E1, -, -⟩ := ((K1.out.set0 (.int .i64 (-a))).set1 (.int .i64 b)).all
    refine bodyPost_ret (v := ratV ((-a), b)) (by simp [results, Try.results24, go_sem, E0, E1, ratV]) rfl ⟨by rw [L.out], ?_⟩
    exact (B.out.setCell (by show w.heap.size ≤ w.heap.size + 1; omega) _).setCell (by show w.heap.size ≤ w.heap.size + 1; omega) _
  · have L : Hid (negR a b = (0, 0)) := by show negR a b = _; unfold negR; rw [ha]; rfl
    go_enter Try.func24, Try.ntmps24
    go_wp2_with fail
    refine (sIsRat a b _).mono ?_
    rintro e w1 ⟨rfl, hb⟩
    have K0 : Hid (Blk2 w1 w.heap.size 25 (.int .i64 a) (.int .i64 b)) := ((Blk2.at_ _ _ _ rfl).old _).keep hb (by simp <;> omega)
    have K1 : Hid (Blk2 w1 (w.heap.size + 1) 25 (.int .i64 0) (.int .i64 0)) := (Blk2.at_ _ _ _ (by simp)).keep hb (by simp <;> omega)
    have B : Hid (Below w.heap.size w w1) := Below.trans (by repeat (first | exact Below.refl _ _ | refine Below.alloc ?_ (by simp <;> omega) _)) (hb.mono (by simp <;> omega))
    obtain ⟨K0a1, K0b1, K0c1, K0d1⟩ := K0.out.all
    obtain ⟨K1a1, K1b1, K1c1, K1d1⟩ := K1.out.all
    clear hb
    rw [ha]
    go_wp2_with fail
    obtain ⟨E0, E1, -, -⟩ := ((K1.out.set0 (.int .i64 0)).set1 (.int .i64 0)).all
    refine bodyPost_ret (v := ratV (0, 0)) (by simp [results, Try.results24, go_sem, E0, E1, ratV]) rfl ⟨by rw [L.out], ?_⟩
    exact (B.out.setCell (by show w.heap.size ≤ w.heap.size + 1; omega) _).setCell (by show w.heap.size ≤ w.heap.size + 1; omega) _

theorem iNeg (a b : Int) (w : World) : Calls Try.prog 25 #[.agg #[.int .i64 a, .int .i64 b]] w (Gives (ratV (negR a b)) w) := by
  rcases Bool.eq_false_or_eq_true (isRat a b) with ha | ha
  · have L : Hid (negR a b = (-a, b)) := by show negR a b = _; unfold negR; rw [ha]; rfl
    obtain ⟨⟨pa1, pa2⟩, pb1, pb2⟩ := isRat_in (of_decide_eq_true ha)
    go_enter Try.func25, Try.ntmps25
    go_wp2_with fail
    refine (iIsRat a b _).mono ?_
    rintro e w1 ⟨rfl, hb⟩
    have K0 : Hid (Blk2 w1 w.heap.size 25 (.int .i64 a) (.int .i64 b)) := ((Blk2.at_ _ _ _ rfl).old _).keep hb (by simp <;> omega)
    have K1 : Hid (Blk2 w1 (w.heap.size + 1) 25 (.int .i64 0) (.int .i64 0)) := (Blk2.at_ _ _ _ (by simp)).keep hb (by simp <;> omega)
    have B : Hid (Below w.heap.size w w1) := Below.trans (by repeat (first | exact Below.refl _ _ | refine Below.alloc ?_ (by simp <;> omega) _)) (hb.mono (by simp <;> omega))
    obtain ⟨K0a1, K0b1, K0c1, K0d1⟩ := K0.out.all
    obtain ⟨K1a1, K1b1, K1c1, K1d1⟩ := K1.out.all
    clear hb
    rw [ha]
    go_wp2_with fail
    obtain ⟨E0, E1, -, -⟩ := ((K1.out.set0 (.int .i64 (-a))).set1 (.int .i64 b)).all
    refine bodyPost_ret (v := ratV ((-a), b)) (by simp [results, Try.results25, go_sem, E0, E1, ratV]) rfl ⟨by rw [L.out], ?_⟩
    exact (B.out.setCell (by show w.heap.size ≤ w.heap.size + 1; omega) _).setCell (by show w.heap.size ≤ w.heap.size + 1; omega) _
  · have L : Hid (negR a b = (0, 0)) := by show negR a b = _; unfold negR; rw [ha]; rfl
    go_enter Try.func25, Try.ntmps25
    go_wp2_with fail
    refine (iIsRat a b _).mono ?_
    rintro e w1 ⟨rfl, hb⟩
    have K0 : Hid (Blk2 w1 w.heap.size 25 (.int .i64 a) (.int .i64 b)) := ((Blk2.at_ _ _ _ rfl).old _).keep hb (by simp <;> omega)
    have K1 : Hid (Blk2 w1 (w.heap.size + 1) 25 (.int .i64 0) (.int .i64 0)) := (Blk2.at_ _ _ _ (by simp)).keep hb (by simp <;> omega)
    have B : Hid (Below w.heap.size w w1) := Below.trans (by repeat (first | exact Below.refl _ _ | refine Below.alloc ?_ (by simp <;> omega) _)) (hb.mono (by simp <;> omega))
    obtain ⟨K0a1, K0b1, K0c1, K0d1⟩ := K0.out.all
    obtain ⟨K1a1, K1b1, K1c1, K1d1⟩ := K1.out.all
    clear hb
    rw [ha]
    go_wp2_with fail
    obtain ⟨E0, E1, -, -⟩ := ((K1.out.set0 (.int .i64 0)).set1 (.int .i64 0)).all
    refine bodyPost_ret (v := ratV (0, 0)) (by simp [results, Try.results25, go_sem, E0, E1, ratV]) rfl ⟨by rw [L.out], ?_⟩
    exact (B.out.setCell (by show w.heap.size ≤ w.heap.size + 1; omega) _).setCell (by show w.heap.size ≤ w.heap.size + 1; omega) _

set_option maxHeartbeats 400000 in
theorem sFlo (a b : Int) (w : World) : Calls Try.prog 32 #[.agg #[.int .i64 a, .int .i64 b]] w (Gives (.int .i64 (floorR a b)) w) := by
  rcases Bool.eq_false_or_eq_true (isRat a b) with ha | ha
  · have L : Hid (floorR a b = a / b) := by show floorR a b = _; unfold floorR; rw [ha]; rfl
    have pr : IsRatP a b := of_decide_eq_true ha
    obtain ⟨⟨pa1, pa2⟩, pb1, pb2⟩ := isRat_in pr
    have pb := pr.1
    clear pr
    go_enter Try.func32, Try.ntmps32
    go_wp2_with fail
    refine (sIsRat a b _).mono ?_
    rintro e w1 ⟨rfl, hb⟩
    have K0 : Hid (Blk2 w1 w.heap.size 25 (.int .i64 a) (.int .i64 b)) := (Blk2.at_ _ _ _ rfl).keep hb (by simp <;> omega)
    have B : Hid (Below w.heap.size w w1) := Below.trans (by repeat (first | exact Below.refl _ _ | refine Below.alloc ?_ (by simp <;> omega) _)) (hb.mono (by simp <;> omega))
    obtain ⟨K0a1, K0b1, K0c1, K0d1⟩ := K0.out.all
    clear hb
    rw [ha]
    go_wp2_with fail
    refine (sFloor a b _ (by omega) (by omega) (by omega) (by omega)).mono ?_
    rintro e w2 ⟨rfl, rfl⟩
    go_wp2_with fail
    go_ret
    exact ⟨by rw [L.out]; rfl, B.out⟩
  · have L : Hid (floorR a b = 0) := by show floorR a b = _; unfold floorR; rw [ha]; rfl
    go_enter Try.func32, Try.ntmps32
    go_wp2_with fail
    refine (sIsRat a b _).mono ?_
    rintro e w1 ⟨rfl, hb⟩
    have K0 : Hid (Blk2 w1 w.heap.size 25 (.int .i64 a) (.int .i64 b)) := (Blk2.at_ _ _ _ rfl).keep hb (by simp <;> omega)
    have B : Hid (Below w.heap.size w w1) := Below.trans (by repeat (first | exact Below.refl _ _ | refine Below.alloc ?_ (by simp <;> omega) _)) (hb.mono (by simp <;> omega))
    obtain ⟨K0a1, K0b1, K0c1, K0d1⟩ := K0.out.all
    clear hb
    rw [ha]
    go_wp2_with fail
    go_ret
    exact ⟨by rw [L.out]; rfl, B.out⟩

set_option maxHeartbeats 400000 in
theorem iFlo (a b : Int) (w : World) : Calls Try.prog 33 #[.agg #[.int .i64 a, .int .i64 b]] w (Gives (.int .i64 (floorR a b)) w) := by
  rcases Bool.eq_false_or_eq_true (isRat a b) with ha | ha
  · have L : Hid (floorR a b = a / b) := by show floorR a b = _; unfold floorR; rw [ha]; rfl
    have pr : IsRatP a b := of_decide_eq_true ha
    obtain ⟨⟨pa1, pa2⟩, pb1, pb2⟩ := isRat_in pr
    have pb := pr.1
    clear pr
    go_enter Try.func33, Try.ntmps33
    go_wp2_with fail
    refine (iIsRat a b _).mono ?_
    rintro e w1 ⟨rfl, hb⟩
    have K0 : Hid (Blk2 w1 w.heap.size 25 (.int .i64 a) (.int .i64 b)) := (Blk2.at_ _ _ _ rfl).keep hb (by simp <;> omega)
    have B : Hid (Below w.heap.size w w1) := Below.trans (by repeat (first | exact Below.refl _ _ | refine Below.alloc ?_ (by simp <;> omega) _)) (hb.mono (by simp <;> omega))
    obtain ⟨K0a1, K0b1, K0c1, K0d1⟩ := K0.out.all
    clear hb
    rw [ha]
    go_wp2_with fail
    refine (iDiv a b _ pa1 pa2 pb1 pb2 (by omega)).mono ?_
    rintro e w2 ⟨rfl, k, rfl⟩
    go_wp2_with fail
    go_ret
    exact ⟨by rw [L.out]; rfl, below_drewN B.out _⟩
  · have L : Hid (floorR a b = 0) := by show floorR a b = _; unfold floorR; rw [ha]; rfl
    go_enter Try.func33, Try.ntmps33
    go_wp2_with fail
    refine (iIsRat a b _).mono ?_
    rintro e w1 ⟨rfl, hb⟩
    have K0 : Hid (Blk2 w1 w.heap.size 25 (.int .i64 a) (.int .i64 b)) := (Blk2.at_ _ _ _ rfl).keep hb (by simp <;> omega)
    have B : Hid (Below w.heap.size w w1) := Below.trans (by repeat (first | exact Below.refl _ _ | refine Below.alloc ?_ (by simp <;> omega) _)) (hb.mono (by simp <;> omega))
    obtain ⟨K0a1, K0b1, K0c1, K0d1⟩ := K0.out.all
    clear hb
    rw [ha]
    go_wp2_with fail
    go_ret
    exact ⟨by rw [L.out]; rfl, B.out⟩

set_option maxHeartbeats 400000 in
theorem sRnd (a b : Int) (w : World) : Calls Try.prog 34 #[.agg #[.int .i64 a, .int .i64 b]] w (Gives (.int .i64 (roundR a b)) w) := by
  rcases Bool.eq_false_or_eq_true (isRat a b) with ha | ha
  · have L : Hid (roundR a b = (2 * a + b) / (2 * b)) := by show roundR a b = _; unfold roundR; rw [ha]; rfl
    have pr : IsRatP a b := of_decide_eq_true ha
    obtain ⟨⟨pa1, pa2⟩, pb1, pb2⟩ := isRat_in pr
    have pb := pr.1
    clear pr
    go_enter Try.func34, Try.ntmps34
    go_wp2_with fail
    refine (sIsRat a b _).mono ?_
    rintro e w1 ⟨rfl, hb⟩
    have K0 : Hid (Blk2 w1 w.heap.size 25 (.int .i64 a) (.int .i64 b)) := (Blk2.at_ _ _ _ rfl).keep hb (by simp <;> omega)
    have B : Hid (Below w.heap.size w w1) := Below.trans (by repeat (first | exact Below.refl _ _ | refine Below.alloc ?_ (by simp <;> omega) _)) (hb.mono (by simp <;> omega))
    obtain ⟨K0a1, K0b1, K0c1, K0d1⟩ := K0.out.all
    clear hb
    rw [ha]
    go_wp2_with fail
    refine (sFloor (2 * a + b) (2 * b) _ (by omega) (by omega) (by omega) (by omega)).mono ?_
    rintro e w2 ⟨rfl, rfl⟩
    go_wp2_with fail
    go_ret
    exact ⟨by rw [L.out]; rfl, B.out⟩
  · have L : Hid (roundR a b = 0) := by show roundR a b = _; unfold roundR; rw [ha]; rfl
    go_enter Try.func34, Try.ntmps34
    go_wp2_with fail
    refine (sIsRat a b _).mono ?_
    rintro e w1 ⟨rfl, hb⟩
    have K0 : Hid (Blk2 w1 w.heap.size 25 (.int .i64 a) (.int .i64 b)) := (Blk2.at_ _ _ _ rfl).keep hb (by simp <;> omega)
    have B : Hid (Below w.heap.size w w1) := Below.trans (by repeat (first | exact Below.refl _ _ | refine Below.alloc ?_ (by simp <;> omega) _)) (hb.mono (by simp <;> omega))
    obtain ⟨K0a1, K0b1, K0c1, K0d1⟩ := K0.out.all
    clear hb
    rw [ha]
    go_wp2_with fail
    go_ret
    exact ⟨by rw [L.out]; rfl, B.out⟩

set_option maxHeartbeats 400000 in
theorem iRnd (a b : Int) (w : World) : Calls Try.prog 35 #[.agg #[.int .i64 a, .int .i64 b]] w (Gives (.int .i64 (roundR a b)) w) := by
  rcases Bool.eq_false_or_eq_true (isRat a b) with ha | ha
  · have L : Hid (roundR a b = (2 * a + b) / (2 * b)) := by show roundR a b = _; unfold roundR; rw [ha]; rfl
    have pr : IsRatP a b := of_decide_eq_true ha
    obtain ⟨⟨pa1, pa2⟩, pb1, pb2⟩ := isRat_in pr
    have pb := pr.1
    clear pr
    have r0 := Int.emod_nonneg a (show b ≠ 0 by omega)
    have r1 := Int.emod_lt_of_pos a (show 0 < b by omega)
    obtain ⟨q1, q2⟩ := ediv_bd a b (by omega) pa1 pa2
    have RE := Lib.hid (round_eq a b (by omega))
    by_cases hr : b ≤ 2 * (a % b)
    · have RE2 : Hid ((2 * a + b) / (2 * b) = a / b + 1) := RE.out.trans (if_pos hr)
      go_enter Try.func35, Try.ntmps35
      go_wp2_with fail
      refine (iIsRat a b _).mono ?_
      rintro e w1 ⟨rfl, hb⟩
      have K0 : Hid (Blk2 w1 w.heap.size 25 (.int .i64 a) (.int .i64 b)) := (Blk2.at_ _ _ _ rfl).keep hb (by simp <;> omega)
      have B : Hid (Below w.heap.size w w1) := Below.trans (by repeat (first | exact Below.refl _ _ | refine Below.alloc ?_ (by simp <;> omega) _)) (hb.mono (by simp <;> omega))
      obtain ⟨K0a1, K0b1, K0c1, K0d1⟩ := K0.out.all
      clear hb
      rw [ha]
      go_wp2_with fail
      refine (iDiv a b _ pa1 pa2 pb1 pb2 (by omega)).mono ?_
      rintro e w2 ⟨rfl, k, rfl⟩
      go_wp2_with fail
      go_ret
      exact ⟨by rw [L.out, RE2.out]; rfl, below_drewN B.out _⟩
    · have RE2 : Hid ((2 * a + b) / (2 * b) = a / b) := RE.out.trans (if_neg hr)
      have hr' : decide (b ≤ 2 * (a % b)) = false := by simpa using hr
      clear hr
      go_enter Try.func35, Try.ntmps35
      go_wp2_with fail
      refine (iIsRat a b _).mono ?_
      rintro e w1 ⟨rfl, hb⟩
      have K0 : Hid (Blk2 w1 w.heap.size 25 (.int .i64 a) (.int .i64 b)) := (Blk2.at_ _ _ _ rfl).keep hb (by simp <;> omega)
      have B : Hid (Below w.heap.size w w1) := Below.trans (by repeat (first | exact Below.refl _ _ | refine Below.alloc ?_ (by simp <;> omega) _)) (hb.mono (by simp <;> omega))
      obtain ⟨K0a1, K0b1, K0c1, K0d1⟩ := K0.out.all
      clear hb
      rw [ha]
      go_wp2_with fail
      refine (iDiv a b _ pa1 pa2 pb1 pb2 (by omega)).mono ?_
      rintro e w2 ⟨rfl, k, rfl⟩
      go_wp2_with fail
      go_ret
      exact ⟨by rw [L.out, RE2.out]; rfl, below_drewN B.out _⟩
  · have L : Hid (roundR a b = 0) := by show roundR a b = _; unfold roundR; rw [ha]; rfl
    go_enter Try.func35, Try.ntmps35
    go_wp2_with fail
    refine (iIsRat a b _).mono ?_
    rintro e w1 ⟨rfl, hb⟩
    have K0 : Hid (Blk2 w1 w.heap.size 25 (.int .i64 a) (.int .i64 b)) := (Blk2.at_ _ _ _ rfl).keep hb (by simp <;> omega)
    have B : Hid (Below w.heap.size w w1) := Below.trans (by repeat (first | exact Below.refl _ _ | refine Below.alloc ?_ (by simp <;> omega) _)) (hb.mono (by simp <;> omega))
    obtain ⟨K0a1, K0b1, K0c1, K0d1⟩ := K0.out.all
    clear hb
    rw [ha]
    go_wp2_with fail
    go_ret
    exact ⟨by rw [L.out]; rfl, B.out⟩

set_option maxHeartbeats 400000 in
theorem sCmpR (a b c d : Int) (w : World) : Calls Try.prog 30 #[.agg #[.int .i64 a, .int .i64 b], .agg #[.int .i64 c, .int .i64 d]] w (Gives (.int .i64 (cmpR a b c d)) w) := by
  rcases Bool.eq_false_or_eq_true (isRat a b) with ha | ha
  · rcases Bool.eq_false_or_eq_true (isRat c d) with hc | hc
    · have pa := isRat_in (of_decide_eq_true ha)
      have pc := isRat_in (of_decide_eq_true hc)
      obtain ⟨m1, m2⟩ := mul_sm a d pa.1 pc.2
      obtain ⟨m3, m4⟩ := mul_sm c b pc.1 pa.2
      rcases Int.lt_trichotomy (a * d) (c * b) with h | h | h
      · have L : Hid (cmpR a b c d = -1) := by show cmpR a b c d = _; unfold cmpR; rw [ha, hc]; show cmpI (a * d) (c * b) = _; unfold cmpI; rw [if_pos h]
        go_enter Try.func30, Try.ntmps30
        go_wp2_with fail
        refine (sIsRat a b _).mono ?_
        rintro e w1 ⟨rfl, hb⟩
        have K0 : Hid (Blk2 w1 w.heap.size 25 (.int .i64 a) (.int .i64 b)) := ((Blk2.at_ _ _ _ rfl).old _).keep hb (by simp <;> omega)
        have K1 : Hid (Blk2 w1 (w.heap.size + 1) 25 (.int .i64 c) (.int .i64 d)) := (Blk2.at_ _ _ _ (by simp)).keep hb (by simp <;> omega)
        have B : Hid (Below w.heap.size w w1) := Below.trans (by repeat (first | exact Below.refl _ _ | refine Below.alloc ?_ (by simp <;> omega) _)) (hb.mono (by simp <;> omega))
        obtain ⟨K0a1, K0b1, K0c1, K0d1⟩ := K0.out.all
        obtain ⟨K1a1, K1b1, K1c1, K1d1⟩ := K1.out.all
        clear hb
        rw [ha]
        go_wp2_with fail
        refine (sIsRat c d _).mono ?_
        rintro e w2 ⟨rfl, hb⟩
        have K0 : Hid (Blk2 w2 w.heap.size 25 (.int .i64 a) (.int .i64 b)) := K0.out.keep hb K0.out.lt
        have K1 : Hid (Blk2 w2 (w.heap.size + 1) 25 (.int .i64 c) (.int .i64 d)) := K1.out.keep hb K1.out.lt
        have B := Lib.hid (B.out.trans (hb.mono B.out.size))
        obtain ⟨K0a2, K0b2, K0c2, K0d2⟩ := K0.out.all
        obtain ⟨K1a2, K1b2, K1c2, K1d2⟩ := K1.out.all
        clear hb
        rw [hc]
        go_wp2_with fail
        go_ret
        exact ⟨by rw [L.out]; rfl, B.out⟩
      · have L : Hid (cmpR a b c d = 0) := by show cmpR a b c d = _; unfold cmpR; rw [ha, hc]; show cmpI (a * d) (c * b) = _; unfold cmpI; rw [if_neg (by omega), if_neg (by omega)]
        go_enter Try.func30, Try.ntmps30
        go_wp2_with fail
        refine (sIsRat a b _).mono ?_
        rintro e w1 ⟨rfl, hb⟩
        have K0 : Hid (Blk2 w1 w.heap.size 25 (.int .i64 a) (.int .i64 b)) := ((Blk2.at_ _ _ _ rfl).old _).keep hb (by simp <;> omega)
        have K1 : Hid (Blk2 w1 (w.heap.size + 1) 25 (.int .i64 c) (.int .i64 d)) := (Blk2.at_ _ _ _ (by simp)).keep hb (by simp <;> omega)
        have B : Hid (Below w.heap.size w w1) := Below.trans (by repeat (first | exact Below.refl _ _ | refine Below.alloc ?_ (by simp <;> omega) _)) (hb.mono (by simp <;> omega))
        obtain ⟨K0a1, K0b1, K0c1, K0d1⟩ := K0.out.all
        obtain ⟨K1a1, K1b1, K1c1, K1d1⟩ := K1.out.all
        clear hb
        rw [ha]
        go_wp2_with fail
        refine (sIsRat c d _).mono ?_
        rintro e w2 ⟨rfl, hb⟩
        have K0 : Hid (Blk2 w2 w.heap.size 25 (.int .i64 a) (.int .i64 b)) := K0.out.keep hb K0.out.lt
        have K1 : Hid (Blk2 w2 (w.heap.size + 1) 25 (.int .i64 c) (.int .i64 d)) := K1.out.keep hb K1.out.lt
        have B := Lib.hid (B.out.trans (hb.mono B.out.size))
        obtain ⟨K0a2, K0b2, K0c2, K0d2⟩ := K0.out.all
        obtain ⟨K1a2, K1b2, K1c2, K1d2⟩ := K1.out.all
        clear hb
        rw [hc]
        go_wp2_with fail
        go_ret
        exact ⟨by rw [L.out]; rfl, B.out⟩
      · have L : Hid (cmpR a b c d = 1) := by show cmpR a b c d = _; unfold cmpR; rw [ha, hc]; show cmpI (a * d) (c * b) = _; unfold cmpI; rw [if_neg (by omega), if_pos h]
        go_enter Try.func30, Try.ntmps30
        go_wp2_with fail
        refine (sIsRat a b _).mono ?_
        rintro e w1 ⟨rfl, hb⟩
        have K0 : Hid (Blk2 w1 w.heap.size 25 (.int .i64 a) (.int .i64 b)) := ((Blk2.at_ _ _ _ rfl).old _).keep hb (by simp <;> omega)
        have K1 : Hid (Blk2 w1 (w.heap.size + 1) 25 (.int .i64 c) (.int .i64 d)) := (Blk2.at_ _ _ _ (by simp)).keep hb (by simp <;> omega)
        have B : Hid (Below w.heap.size w w1) := Below.trans (by repeat (first | exact Below.refl _ _ | refine Below.alloc ?_ (by simp <;> omega) _)) (hb.mono (by simp <;> omega))
        obtain ⟨K0a1, K0b1, K0c1, K0d1⟩ := K0.out.all
        obtain ⟨K1a1, K1b1, K1c1, K1d1⟩ := K1.out.all
        clear hb
        rw [ha]
        go_wp2_with fail
        refine (sIsRat c d _).mono ?_
        rintro e w2 ⟨rfl, hb⟩
        have K0 : Hid (Blk2 w2 w.heap.size 25 (.int .i64 a) (.int .i64 b)) := K0.out.keep hb K0.out.lt
        have K1 : Hid (Blk2 w2 (w.heap.size + 1) 25 (.int .i64 c) (.int .i64 d)) := K1.out.keep hb K1.out.lt
        have B := Lib.hid (B.out.trans (hb.mono B.out.size))
        obtain ⟨K0a2, K0b2, K0c2, K0d2⟩ := K0.out.all
        obtain ⟨K1a2, K1b2, K1c2, K1d2⟩ := K1.out.all
        clear hb
        rw [hc]
        go_wp2_with fail
        go_ret
        exact ⟨by rw [L.out]; rfl, B.out⟩
    · have L : Hid (cmpR a b c d = 2) := by show cmpR a b c d = _; unfold cmpR; rw [ha, hc]; rfl
      go_enter Try.func30, Try.ntmps30
      go_wp2_with fail
      refine (sIsRat a b _).mono ?_
      rintro e w1 ⟨rfl, hb⟩
      have K0 : Hid (Blk2 w1 w.heap.size 25 (.int .i64 a) (.int .i64 b)) := ((Blk2.at_ _ _ _ rfl).old _).keep hb (by simp <;> omega)
      have K1 : Hid (Blk2 w1 (w.heap.size + 1) 25 (.int .i64 c) (.int .i64 d)) := (Blk2.at_ _ _ _ (by simp)).keep hb (by simp <;> omega)
      have B : Hid (Below w.heap.size w w1) := Below.trans (by repeat (first | exact Below.refl _ _ | refine Below.alloc ?_ (by simp <;> omega) _)) (hb.mono (by simp <;> omega))
      obtain ⟨K0a1, K0b1, K0c1, K0d1⟩ := K0.out.all
      obtain ⟨K1a1, K1b1, K1c1, K1d1⟩ := K1.out.all
      clear hb
      rw [ha]
      go_wp2_with fail
      refine (sIsRat c d _).mono ?_
      rintro e w2 ⟨rfl, hb⟩
      have K0 : Hid (Blk2 w2 w.heap.size 25 (.int .i64 a) (.int .i64 b)) := K0.out.keep hb K0.out.lt
      have K1 : Hid (Blk2 w2 (w.heap.size + 1) 25 (.int .i64 c) (.int .i64 d)) := K1.out.keep hb K1.out.lt
      have B := Lib.hid (B.out.trans (hb.mono B.out.size))
      obtain ⟨K0a2, K0b2, K0c2, K0d2⟩ := K0.out.all
      obtain ⟨K1a2, K1b2, K1c2, K1d2⟩ := K1.out.all
      clear hb
      rw [hc]
      go_wp2_with fail
      go_ret
      exact ⟨by rw [L.out]; rfl, B.out⟩
  · have L : Hid (cmpR a b c d = 2) := by show cmpR a b c d = _; unfold cmpR; rw [ha]; rfl
    go_enter Try.func30, Try.ntmps30
    go_wp2_with fail
    refine (sIsRat a b _).mono ?_
    rintro e w1 ⟨rfl, hb⟩
    have K0 : Hid (Blk2 w1 w.heap.size 25 (.int .i64 a) (.int .i64 b)) := ((Blk2.at_ _ _ _ rfl).old _).keep hb (by simp <;> omega)
    have K1 : Hid (Blk2 w1 (w.heap.size + 1) 25 (.int .i64 c) (.int .i64 d)) := (Blk2.at_ _ _ _ (by simp)).keep hb (by simp <;> omega)
    have B : Hid (Below w.heap.size w w1) := Below.trans (by repeat (first | exact Below.refl _ _ | refine Below.alloc ?_ (by simp <;> omega) _)) (hb.mono (by simp <;> omega))
    obtain ⟨K0a1, K0b1, K0c1, K0d1⟩ := K0.out.all
    obtain ⟨K1a1, K1b1, K1c1, K1d1⟩ := K1.out.all
    clear hb
    rw [ha]
    go_wp2_with fail
    go_ret
    exact ⟨by rw [L.out]; rfl, B.out⟩

set_option maxHeartbeats 400000 in
theorem iCmpR (a b c d : Int) (w : World) : Calls Try.prog 31 #[.agg #[.int .i64 a, .int .i64 b], .agg #[.int .i64 c, .int .i64 d]] w (Gives (.int .i64 (cmpR a b c d)) w) := by
  rcases Bool.eq_false_or_eq_true (isRat a b) with ha | ha
  · rcases Bool.eq_false_or_eq_true (isRat c d) with hc | hc
    · have L : Hid (cmpR a b c d = cmpI (a * d) (c * b)) := by show cmpR a b c d = _; unfold cmpR; rw [ha, hc]; rfl
      have pa := isRat_in (of_decide_eq_true ha)
      have pc := isRat_in (of_decide_eq_true hc)
      obtain ⟨m1, m2⟩ := mul_sm a d pa.1 pc.2
      obtain ⟨m3, m4⟩ := mul_sm c b pc.1 pa.2
      go_enter Try.func31, Try.ntmps31
      go_wp2_with fail
      refine (iIsRat a b _).mono ?_
      rintro e w1 ⟨rfl, hb⟩
      have K0 : Hid (Blk2 w1 w.heap.size 25 (.int .i64 a) (.int .i64 b)) := ((Blk2.at_ _ _ _ rfl).old _).keep hb (by simp <;> omega)
      have K1 : Hid (Blk2 w1 (w.heap.size + 1) 25 (.int .i64 c) (.int .i64 d)) := (Blk2.at_ _ _ _ (by simp)).keep hb (by simp <;> omega)
      have B : Hid (Below w.heap.size w w1) := Below.trans (by repeat (first | exact Below.refl _ _ | refine Below.alloc ?_ (by simp <;> omega) _)) (hb.mono (by simp <;> omega))
      obtain ⟨K0a1, K0b1, K0c1, K0d1⟩ := K0.out.all
      obtain ⟨K1a1, K1b1, K1c1, K1d1⟩ := K1.out.all
      clear hb
      rw [ha]
      go_wp2_with fail
      refine (iIsRat c d _).mono ?_
      rintro e w2 ⟨rfl, hb⟩
      have K0 : Hid (Blk2 w2 w.heap.size 25 (.int .i64 a) (.int .i64 b)) := K0.out.keep hb K0.out.lt
      have K1 : Hid (Blk2 w2 (w.heap.size + 1) 25 (.int .i64 c) (.int .i64 d)) := K1.out.keep hb K1.out.lt
      have B := Lib.hid (B.out.trans (hb.mono B.out.size))
      obtain ⟨K0a2, K0b2, K0c2, K0d2⟩ := K0.out.all
      obtain ⟨K1a2, K1b2, K1c2, K1d2⟩ := K1.out.all
      clear hb
      rw [hc]
      go_wp2_with fail
      refine (iCmp _ _ _).mono ?_
      rintro e w3 ⟨rfl, rfl⟩
      go_wp2_with fail
      go_ret
      exact ⟨by rw [L.out]; rfl, B.out⟩
    · have L : Hid (cmpR a b c d = 2) := by show cmpR a b c d = _; unfold cmpR; rw [ha, hc]; rfl
      go_enter Try.func31, Try.ntmps31
      go_wp2_with fail
      refine (iIsRat a b _).mono ?_
      rintro e w1 ⟨rfl, hb⟩
      have K0 : Hid (Blk2 w1 w.heap.size 25 (.int .i64 a) (.int .i64 b)) := ((Blk2.at_ _ _ _ rfl).old _).keep hb (by simp <;> omega)
      have K1 : Hid (Blk2 w1 (w.heap.size + 1) 25 (.int .i64 c) (.int .i64 d)) := (Blk2.at_ _ _ _ (by simp)).keep hb (by simp <;> omega)
      have B : Hid (Below w.heap.size w w1) := Below.trans (by repeat (first | exact Below.refl _ _ | refine Below.alloc ?_ (by simp <;> omega) _)) (hb.mono (by simp <;> omega))
      obtain ⟨K0a1, K0b1, K0c1, K0d1⟩ := K0.out.all
      obtain ⟨K1a1, K1b1, K1c1, K1d1⟩ := K1.out.all
      clear hb
      rw [ha]
      go_wp2_with fail
      refine (iIsRat c d _).mono ?_
      rintro e w2 ⟨rfl, hb⟩
      have K0 : Hid (Blk2 w2 w.heap.size 25 (.int .i64 a) (.int .i64 b)) := K0.out.keep hb K0.out.lt
      have K1 : Hid (Blk2 w2 (w.heap.size + 1) 25 (.int .i64 c) (.int .i64 d)) := K1.out.keep hb K1.out.lt
      have B := Lib.hid (B.out.trans (hb.mono B.out.size))
      obtain ⟨K0a2, K0b2, K0c2, K0d2⟩ := K0.out.all
      obtain ⟨K1a2, K1b2, K1c2, K1d2⟩ := K1.out.all
      clear hb
      rw [hc]
      go_wp2_with fail
      go_ret
      exact ⟨by rw [L.out]; rfl, B.out⟩
  · have L : Hid (cmpR a b c d = 2) := by show cmpR a b c d = _; unfold cmpR; rw [ha]; rfl
    go_enter Try.func31, Try.ntmps31
    go_wp2_with fail
    refine (iIsRat a b _).mono ?_
    rintro e w1 ⟨rfl, hb⟩
    have K0 : Hid (Blk2 w1 w.heap.size 25 (.int .i64 a) (.int .i64 b)) := ((Blk2.at_ _ _ _ rfl).old _).keep hb (by simp <;> omega)
    have K1 : Hid (Blk2 w1 (w.heap.size + 1) 25 (.int .i64 c) (.int .i64 d)) := (Blk2.at_ _ _ _ (by simp)).keep hb (by simp <;> omega)
    have B : Hid (Below w.heap.size w w1) := Below.trans (by repeat (first | exact Below.refl _ _ | refine Below.alloc ?_ (by simp <;> omega) _)) (hb.mono (by simp <;> omega))
    obtain ⟨K0a1, K0b1, K0c1, K0d1⟩ := K0.out.all
    obtain ⟨K1a1, K1b1, K1c1, K1d1⟩ := K1.out.all
    clear hb
    rw [ha]
    go_wp2_with fail
    go_ret
    exact ⟨by rw [L.out]; rfl, B.out⟩

end Go.Proofs.Ytgoephocgefokaa
