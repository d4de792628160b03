/-
  Texts of this seat, joined: ZCRatOpS · ZCSvRat · ZCSvRep · ZCSvWd · ZCApC · ZCRqA · ZCIvxS · ZCReS · ZCReT
-/
import Derived.BigQuiet
import Derived.Deep.QuietTactic
import Derived.Test.YtcapddcmnjeloaaGreatDoorPk23
import Derived.Test.YtcapddcmnjeloaaGreatDoorPk24
import Derived.Test.YtcapddcmnjeloaaGreatDoorPk25
import Derived.Test.YtcapddcmnjeloaaGreatDoorPk26

section
/-
  Chapter 2, in the model: sums, products, quotients.
-/
namespace Go.Proofs.YtcapddcmnjeloaaGreatDoor
open Go.RowKit
set_option maxHeartbeats 800000 in
theorem sAdd (a b c d : Int) (w : World) : Calls Tryz.prog 47 #[.agg #[.int .i64 a, .int .i64 b], .agg #[.int .i64 c, .int .i64 d]] w (Gives (ratV (addR a b c d)) w) := by
  rcases Bool.eq_false_or_eq_true (isRat a b) with ha | ha
  · rcases Bool.eq_false_or_eq_true (isRat c d) with hc | hc
    · have L : Hid (addR a b c d = low (a * d + c * b) (b * d)) := by show addR a b c d = _; unfold addR; rw [ha, hc]; rfl
      have pa := isRat_in (of_decide_eq_true ha)
      have pc := isRat_in (of_decide_eq_true hc)
      obtain ⟨m1, m2⟩ := mul_sm a d pa.1 pc.2
      obtain ⟨m3, m4⟩ := mul_sm c b pc.1 pa.2
      obtain ⟨m5, m6⟩ := mul_sm b d pa.2 pc.2
      obtain ⟨m7, m8⟩ := mul_sm a c pa.1 pc.1
      obtain ⟨m9, m10⟩ := mul_sm b c pa.2 pc.1
      go_enter Tryz.func47, Tryz.ntmps47
      go_wp2_with fail
      refine (sIsRat a b _).mono ?_
      rintro e w1 ⟨rfl, hb⟩
      have K0 : Hid (Blk2 w1 w.heap.size 40 (.int .i64 a) (.int .i64 b)) := (((Blk2.at_ _ _ _ rfl).old _).old _).keep hb (by simp <;> omega)
      have K1 : Hid (Blk2 w1 (w.heap.size + 1) 40 (.int .i64 c) (.int .i64 d)) := ((Blk2.at_ _ _ _ (by simp)).old _).keep hb (by simp <;> omega)
      have K2 : Hid (Blk2 w1 (w.heap.size + 1 + 1) 40 (.int .i64 0) (.int .i64 0)) := (Blk2.at_ _ _ _ (by simp)).keep hb (by simp <;> omega)
      have B : Hid (Below w.heap.size w w1) := Below.trans (by repeat (first | exact Below.refl _ _ | refine Below.alloc ?_ (by simp <;> omega) _)) (hb.mono (by simp <;> omega))
      obtain ⟨K0a1, K0b1, K0c1, K0d1⟩ := K0.out.all
      obtain ⟨K1a1, K1b1, K1c1, K1d1⟩ := K1.out.all
      obtain ⟨K2a1, K2b1, K2c1, K2d1⟩ := K2.out.all
      clear hb
      rw [ha]
      go_wp2_with fail
      refine (sIsRat c d _).mono ?_
      rintro e w2 ⟨rfl, hb⟩
      have K0 : Hid (Blk2 w2 w.heap.size 40 (.int .i64 a) (.int .i64 b)) := K0.out.keep hb K0.out.lt
      have K1 : Hid (Blk2 w2 (w.heap.size + 1) 40 (.int .i64 c) (.int .i64 d)) := K1.out.keep hb K1.out.lt
      have K2 : Hid (Blk2 w2 (w.heap.size + 1 + 1) 40 (.int .i64 0) (.int .i64 0)) := K2.out.keep hb K2.out.lt
      have B := Lib.hid (B.out.trans (hb.mono B.out.size))
      obtain ⟨K0a2, K0b2, K0c2, K0d2⟩ := K0.out.all
      obtain ⟨K1a2, K1b2, K1c2, K1d2⟩ := K1.out.all
      obtain ⟨K2a2, K2b2, K2c2, K2d2⟩ := K2.out.all
      clear hb
      rw [hc]
      go_wp2_with fail
      refine (sMake (a * d + c * b) (b * d) _ (by omega) (by omega)).mono ?_
      rintro e w3 ⟨rfl, hb⟩
      have K2 : Hid (Blk2 w3 (w.heap.size + 1 + 1) 40 (.int .i64 0) (.int .i64 0)) := K2.out.keep hb K2.out.lt
      have B := Lib.hid (B.out.trans (hb.mono B.out.size))
      obtain ⟨K2a3, K2b3, K2c3, K2d3⟩ := K2.out.all
      clear hb
      unfold ratV
      go_wp2_with fail
      obtain ⟨E0, E1, -, -⟩ := ((K2.out.set0 (.int .i64 (low (a * d + c * b) (b * d)).1)).set1 (.int .i64 (low (a * d + c * b) (b * d)).2)).all
      refine bodyPost_ret (v := ratV (low (a * d + c * b) (b * d))) (by simp [results, Tryz.results47, go_sem, E0, E1, ratV]) rfl ⟨by rw [L.out], ?_⟩
      exact (B.out.setCell (by show w.heap.size ≤ w.heap.size + 1 + 1; omega) _).setCell (by show w.heap.size ≤ w.heap.size + 1 + 1; omega) _
    · have L : Hid (addR a b c d = (0, 0)) := by show addR a b c d = _; unfold addR; rw [ha, hc]; rfl
      go_enter Tryz.func47, Tryz.ntmps47
      go_wp2_with fail
      refine (sIsRat a b _).mono ?_
      rintro e w1 ⟨rfl, hb⟩
      have K0 : Hid (Blk2 w1 w.heap.size 40 (.int .i64 a) (.int .i64 b)) := (((Blk2.at_ _ _ _ rfl).old _).old _).keep hb (by simp <;> omega)
      have K1 : Hid (Blk2 w1 (w.heap.size + 1) 40 (.int .i64 c) (.int .i64 d)) := ((Blk2.at_ _ _ _ (by simp)).old _).keep hb (by simp <;> omega)
      have K2 : Hid (Blk2 w1 (w.heap.size + 1 + 1) 40 (.int .i64 0) (.int .i64 0)) := (Blk2.at_ _ _ _ (by simp)).keep hb (by simp <;> omega)
      have B : Hid (Below w.heap.size w w1) := Below.trans (by repeat (first | exact Below.refl _ _ | refine Below.alloc ?_ (by simp <;> omega) _)) (hb.mono (by simp <;> omega))
      obtain ⟨K0a1, K0b1, K0c1, K0d1⟩ := K0.out.all
      obtain ⟨K1a1, K1b1, K1c1, K1d1⟩ := K1.out.all
      obtain ⟨K2a1, K2b1, K2c1, K2d1⟩ := K2.out.all
      clear hb
      rw [ha]
      go_wp2_with fail
      refine (sIsRat c d _).mono ?_
      rintro e w2 ⟨rfl, hb⟩
      have K0 : Hid (Blk2 w2 w.heap.size 40 (.int .i64 a) (.int .i64 b)) := K0.out.keep hb K0.out.lt
      have K1 : Hid (Blk2 w2 (w.heap.size + 1) 40 (.int .i64 c) (.int .i64 d)) := K1.out.keep hb K1.out.lt
      have K2 : Hid (Blk2 w2 (w.heap.size + 1 + 1) 40 (.int .i64 0) (.int .i64 0)) := K2.out.keep hb K2.out.lt
      have B := Lib.hid (B.out.trans (hb.mono B.out.size))
      obtain ⟨K0a2, K0b2, K0c2, K0d2⟩ := K0.out.all
      obtain ⟨K1a2, K1b2, K1c2, K1d2⟩ := K1.out.all
      obtain ⟨K2a2, K2b2, K2c2, K2d2⟩ := K2.out.all
      clear hb
      rw [hc]
      go_wp2_with fail
      obtain ⟨E0, E1, -, -⟩ := ((K2.out.set0 (.int .i64 0)).set1 (.int .i64 0)).all
      refine bodyPost_ret (v := ratV (0, 0)) (by simp [results, Tryz.results47, go_sem, E0, E1, ratV]) rfl ⟨by rw [L.out], ?_⟩
      exact (B.out.setCell (by show w.heap.size ≤ w.heap.size + 1 + 1; omega) _).setCell (by show w.heap.size ≤ w.heap.size + 1 + 1; omega) _
  · have L : Hid (addR a b c d = (0, 0)) := by show addR a b c d = _; unfold addR; rw [ha]; rfl
    go_enter Tryz.func47, Tryz.ntmps47
    go_wp2_with fail
    refine (sIsRat a b _).mono ?_
    rintro e w1 ⟨rfl, hb⟩
    have K0 : Hid (Blk2 w1 w.heap.size 40 (.int .i64 a) (.int .i64 b)) := (((Blk2.at_ _ _ _ rfl).old _).old _).keep hb (by simp <;> omega)
    have K1 : Hid (Blk2 w1 (w.heap.size + 1) 40 (.int .i64 c) (.int .i64 d)) := ((Blk2.at_ _ _ _ (by simp)).old _).keep hb (by simp <;> omega)
    have K2 : Hid (Blk2 w1 (w.heap.size + 1 + 1) 40 (.int .i64 0) (.int .i64 0)) := (Blk2.at_ _ _ _ (by simp)).keep hb (by simp <;> omega)
    have B : Hid (Below w.heap.size w w1) := Below.trans (by repeat (first | exact Below.refl _ _ | refine Below.alloc ?_ (by simp <;> omega) _)) (hb.mono (by simp <;> omega))
    obtain ⟨K0a1, K0b1, K0c1, K0d1⟩ := K0.out.all
    obtain ⟨K1a1, K1b1, K1c1, K1d1⟩ := K1.out.all
    obtain ⟨K2a1, K2b1, K2c1, K2d1⟩ := K2.out.all
    clear hb
    rw [ha]
    go_wp2_with fail
    obtain ⟨E0, E1, -, -⟩ := ((K2.out.set0 (.int .i64 0)).set1 (.int .i64 0)).all
    refine bodyPost_ret (v := ratV (0, 0)) (by simp [results, Tryz.results47, go_sem, E0, E1, ratV]) rfl ⟨by rw [L.out], ?_⟩
    exact (B.out.setCell (by show w.heap.size ≤ w.heap.size + 1 + 1; omega) _).setCell (by show w.heap.size ≤ w.heap.size + 1 + 1; omega) _
set_option maxHeartbeats 800000 in
theorem sMul (a b c d : Int) (w : World) : Calls Tryz.prog 48 #[.agg #[.int .i64 a, .int .i64 b], .agg #[.int .i64 c, .int .i64 d]] w (Gives (ratV (mulR a b c d)) w) := by
  rcases Bool.eq_false_or_eq_true (isRat a b) with ha | ha
  · rcases Bool.eq_false_or_eq_true (isRat c d) with hc | hc
    · have L : Hid (mulR a b c d = low (a * c) (b * d)) := by show mulR a b c d = _; unfold mulR; rw [ha, hc]; rfl
      have pa := isRat_in (of_decide_eq_true ha)
      have pc := isRat_in (of_decide_eq_true hc)
      obtain ⟨m1, m2⟩ := mul_sm a d pa.1 pc.2
      obtain ⟨m3, m4⟩ := mul_sm c b pc.1 pa.2
      obtain ⟨m5, m6⟩ := mul_sm b d pa.2 pc.2
      obtain ⟨m7, m8⟩ := mul_sm a c pa.1 pc.1
      obtain ⟨m9, m10⟩ := mul_sm b c pa.2 pc.1
      go_enter Tryz.func48, Tryz.ntmps48
      go_wp2_with fail
      refine (sIsRat a b _).mono ?_
      rintro e w1 ⟨rfl, hb⟩
      have K0 : Hid (Blk2 w1 w.heap.size 40 (.int .i64 a) (.int .i64 b)) := (((Blk2.at_ _ _ _ rfl).old _).old _).keep hb (by simp <;> omega)
      have K1 : Hid (Blk2 w1 (w.heap.size + 1) 40 (.int .i64 c) (.int .i64 d)) := ((Blk2.at_ _ _ _ (by simp)).old _).keep hb (by simp <;> omega)
      have K2 : Hid (Blk2 w1 (w.heap.size + 1 + 1) 40 (.int .i64 0) (.int .i64 0)) := (Blk2.at_ _ _ _ (by simp)).keep hb (by simp <;> omega)
      have B : Hid (Below w.heap.size w w1) := Below.trans (by repeat (first | exact Below.refl _ _ | refine Below.alloc ?_ (by simp <;> omega) _)) (hb.mono (by simp <;> omega))
      obtain ⟨K0a1, K0b1, K0c1, K0d1⟩ := K0.out.all
      obtain ⟨K1a1, K1b1, K1c1, K1d1⟩ := K1.out.all
      obtain ⟨K2a1, K2b1, K2c1, K2d1⟩ := K2.out.all
      clear hb
      rw [ha]
      go_wp2_with fail
      refine (sIsRat c d _).mono ?_
      rintro e w2 ⟨rfl, hb⟩
      have K0 : Hid (Blk2 w2 w.heap.size 40 (.int .i64 a) (.int .i64 b)) := K0.out.keep hb K0.out.lt
      have K1 : Hid (Blk2 w2 (w.heap.size + 1) 40 (.int .i64 c) (.int .i64 d)) := K1.out.keep hb K1.out.lt
      have K2 : Hid (Blk2 w2 (w.heap.size + 1 + 1) 40 (.int .i64 0) (.int .i64 0)) := K2.out.keep hb K2.out.lt
      have B := Lib.hid (B.out.trans (hb.mono B.out.size))
      obtain ⟨K0a2, K0b2, K0c2, K0d2⟩ := K0.out.all
      obtain ⟨K1a2, K1b2, K1c2, K1d2⟩ := K1.out.all
      obtain ⟨K2a2, K2b2, K2c2, K2d2⟩ := K2.out.all
      clear hb
      rw [hc]
      go_wp2_with fail
      refine (sMake (a * c) (b * d) _ (by omega) (by omega)).mono ?_
      rintro e w3 ⟨rfl, hb⟩
      have K2 : Hid (Blk2 w3 (w.heap.size + 1 + 1) 40 (.int .i64 0) (.int .i64 0)) := K2.out.keep hb K2.out.lt
      have B := Lib.hid (B.out.trans (hb.mono B.out.size))
      obtain ⟨K2a3, K2b3, K2c3, K2d3⟩ := K2.out.all
      clear hb
      unfold ratV
      go_wp2_with fail
      obtain ⟨E0, E1, -, -⟩ := ((K2.out.set0 (.int .i64 (low (a * c) (b * d)).1)).set1 (.int .i64 (low (a * c) (b * d)).2)).all
      refine bodyPost_ret (v := ratV (low (a * c) (b * d))) (by simp [results, Tryz.results48, go_sem, E0, E1, ratV]) rfl ⟨by rw [L.out], ?_⟩
      exact (B.out.setCell (by show w.heap.size ≤ w.heap.size + 1 + 1; omega) _).setCell (by show w.heap.size ≤ w.heap.size + 1 + 1; omega) _
    · have L : Hid (mulR a b c d = (0, 0)) := by show mulR a b c d = _; unfold mulR; rw [ha, hc]; rfl
      go_enter Tryz.func48, Tryz.ntmps48
      go_wp2_with fail
      refine (sIsRat a b _).mono ?_
      rintro e w1 ⟨rfl, hb⟩
      have K0 : Hid (Blk2 w1 w.heap.size 40 (.int .i64 a) (.int .i64 b)) := (((Blk2.at_ _ _ _ rfl).old _).old _).keep hb (by simp <;> omega)
      have K1 : Hid (Blk2 w1 (w.heap.size + 1) 40 (.int .i64 c) (.int .i64 d)) := ((Blk2.at_ _ _ _ (by simp)).old _).keep hb (by simp <;> omega)
      have K2 : Hid (Blk2 w1 (w.heap.size + 1 + 1) 40 (.int .i64 0) (.int .i64 0)) := (Blk2.at_ _ _ _ (by simp)).keep hb (by simp <;> omega)
      have B : Hid (Below w.heap.size w w1) := Below.trans (by repeat (first | exact Below.refl _ _ | refine Below.alloc ?_ (by simp <;> omega) _)) (hb.mono (by simp <;> omega))
      obtain ⟨K0a1, K0b1, K0c1, K0d1⟩ := K0.out.all
      obtain ⟨K1a1, K1b1, K1c1, K1d1⟩ := K1.out.all
      obtain ⟨K2a1, K2b1, K2c1, K2d1⟩ := K2.out.all
      clear hb
      rw [ha]
      go_wp2_with fail
      refine (sIsRat c d _).mono ?_
      rintro e w2 ⟨rfl, hb⟩
      have K0 : Hid (Blk2 w2 w.heap.size 40 (.int .i64 a) (.int .i64 b)) := K0.out.keep hb K0.out.lt
      have K1 : Hid (Blk2 w2 (w.heap.size + 1) 40 (.int .i64 c) (.int .i64 d)) := K1.out.keep hb K1.out.lt
      have K2 : Hid (Blk2 w2 (w.heap.size + 1 + 1) 40 (.int .i64 0) (.int .i64 0)) := K2.out.keep hb K2.out.lt
      have B := Lib.hid (B.out.trans (hb.mono B.out.size))
      obtain ⟨K0a2, K0b2, K0c2, K0d2⟩ := K0.out.all
      obtain ⟨K1a2, K1b2, K1c2, K1d2⟩ := K1.out.all
      obtain ⟨K2a2, K2b2, K2c2, K2d2⟩ := K2.out.all
      clear hb
      rw [hc]
      go_wp2_with fail
      obtain ⟨E0, E1, -, -⟩ := ((K2.out.set0 (.int .i64 0)).set1 (.int .i64 0)).all
      refine bodyPost_ret (v := ratV (0, 0)) (by simp [results, Tryz.results48, go_sem, E0, E1, ratV]) rfl ⟨by rw [L.out], ?_⟩
      exact (B.out.setCell (by show w.heap.size ≤ w.heap.size + 1 + 1; omega) _).setCell (by show w.heap.size ≤ w.heap.size + 1 + 1; omega) _
  · have L : Hid (mulR a b c d = (0, 0)) := by show mulR a b c d = _; unfold mulR; rw [ha]; rfl
    go_enter Tryz.func48, Tryz.ntmps48
    go_wp2_with fail
    refine (sIsRat a b _).mono ?_
    rintro e w1 ⟨rfl, hb⟩
    have K0 : Hid (Blk2 w1 w.heap.size 40 (.int .i64 a) (.int .i64 b)) := (((Blk2.at_ _ _ _ rfl).old _).old _).keep hb (by simp <;> omega)
    have K1 : Hid (Blk2 w1 (w.heap.size + 1) 40 (.int .i64 c) (.int .i64 d)) := ((Blk2.at_ _ _ _ (by simp)).old _).keep hb (by simp <;> omega)
    have K2 : Hid (Blk2 w1 (w.heap.size + 1 + 1) 40 (.int .i64 0) (.int .i64 0)) := (Blk2.at_ _ _ _ (by simp)).keep hb (by simp <;> omega)
    have B : Hid (Below w.heap.size w w1) := Below.trans (by repeat (first | exact Below.refl _ _ | refine Below.alloc ?_ (by simp <;> omega) _)) (hb.mono (by simp <;> omega))
    obtain ⟨K0a1, K0b1, K0c1, K0d1⟩ := K0.out.all
    obtain ⟨K1a1, K1b1, K1c1, K1d1⟩ := K1.out.all
    obtain ⟨K2a1, K2b1, K2c1, K2d1⟩ := K2.out.all
    clear hb
    rw [ha]
    go_wp2_with fail
    obtain ⟨E0, E1, -, -⟩ := ((K2.out.set0 (.int .i64 0)).set1 (.int .i64 0)).all
    refine bodyPost_ret (v := ratV (0, 0)) (by simp [results, Tryz.results48, go_sem, E0, E1, ratV]) rfl ⟨by rw [L.out], ?_⟩
    exact (B.out.setCell (by show w.heap.size ≤ w.heap.size + 1 + 1; omega) _).setCell (by show w.heap.size ≤ w.heap.size + 1 + 1; omega) _
end Go.Proofs.YtcapddcmnjeloaaGreatDoor
end

section
/-
  Chapter 11, in the model: IsRational.
-/
namespace Go.Proofs.YtcapddcmnjeloaaGreatDoor
set_option maxRecDepth 100000
open Go.RowKit
theorem ratF {W w' : World} {b g : Nat} {t t2 : TypeId} {p q r s1 s2 v z1 z2 : Value} {x y1 y2 : Addr} (h0 : Blk3 W b t p q r) (h1 : Blk2 W g t2 s1 s2) (hx : W.cell? x = some v) (hz1 : W.cell? y1 = some z1) (hz2 : W.cell? y2 = some z2) (hb : Below W.heap.size W w') :
    w'.cell? ⟨b, 0, none⟩ = some p ∧ w'.cell? ⟨b, 1, none⟩ = some q ∧ w'.cell? ⟨b, 2, none⟩ = some r ∧ w'.cell? ⟨g, 0, none⟩ = some s1 ∧ w'.cell? ⟨g, 1, none⟩ = some s2 ∧ w'.cell? x = some v ∧ w'.cell? y1 = some z1 ∧ w'.cell? y2 = some z2 := by
  obtain ⟨a1, a2, a3, -, -, -⟩ := (h0.step hb).all
  obtain ⟨b1, b2, -, -⟩ := (h1.keep hb h1.lt).all
  have far : ∀ {a : Addr} {u : Value}, W.cell? a = some u → w'.cell? a = some u := fun {a u} h => (hb.cell (World.block_lt_of_cell? W a h)).trans h
  exact ⟨a1, a2, a3, b1, b2, far hx, far hz1, far hz2⟩
set_option maxHeartbeats 4000000 in
theorem sRational (r c : Int) (a : Option Addr) (m : Nat) (xs : List Int) (ab : Option Addr) (mb : Nat) (bs : List Int) (az : Option Addr) (mz : Nat) (zs : List (Int × Int)) (w : World) (h : Rd w a xs) (hn : xs.length ≤ 16777216) (hb : Rd w ab bs) (hbn : bs.length ≤ 16777216) (hz : RdQ w az zs) (hzn : zs.length ≤ 16777216) :
    Calls Tryz.prog 14 #[.agg #[.int .i64 r, .int .i64 c, .slice a xs.length m], .slice ab bs.length mb, .slice az zs.length mz] w (Gives (.bool (irB r c xs bs zs)) w) := by
  have IM : Hid (∀ w', Below w.heap.size w w' → Calls Tryz.prog 19 #[.agg #[.int .i64 r, .int .i64 c, .slice a xs.length m]] w' (Gives (.bool (isMat r c xs)) w')) := fun w' hb => sIsMat r c a m xs w' (h.below hb) hn
  have K0 : Hid (Blk3 (w.alloc (.cells #[.int .i64 r, .int .i64 c, .slice a xs.length m] 26)) w.heap.size 26 (.int .i64 r) (.int .i64 c) (.slice a xs.length m)) := Blk3.at_ _ _ _ _ rfl
  have B0 : Hid (Below w.heap.size w (w.alloc (.cells #[.int .i64 r, .int .i64 c, .slice a xs.length m] 26))) := (Below.refl _ _).alloc (Nat.le_refl _) _
  rcases Bool.eq_false_or_eq_true (isMat r c xs) with hm | hm
  rotate_left
  · have V : Hid (irB r c xs bs zs = false) := irB_false (.inl hm)
    go_enter Tryz.func14, Tryz.ntmps14
    go_wp2_with fail
    refine (IM.out _ B0.out).mono ?_
    rintro e w1 ⟨rfl, hb1⟩
    rw [hm]
    have B1 := Lib.hid (B0.out.trans (hb1.mono B0.out.size))
    clear hb1
    go_wp2_with fail
    go_ret
    exact ⟨by rw [V.out]; rfl, B1.out⟩
  obtain ⟨⟨r0, r1⟩, ⟨c0, c1⟩, hl, hnx⟩ := isMat_says hm
  obtain ⟨R, rfl⟩ := Int.eq_ofNat_of_zero_le r0
  obtain ⟨C, rfl⟩ := Int.eq_ofNat_of_zero_le c0
  have hl : xs.length = R * C := by rw [← Int.natCast_mul] at hl; omega
  have R24 : R ≤ 24 := by omega
  have C24 : C ≤ 24 := by omega
  have V1 : Hid ((bs.length : Int) ≠ R → irB R C xs bs zs = false) := fun h => irB_false (.inr (.inl h))
  have V2 : Hid ((zs.length : Int) ≠ C → irB R C xs bs zs = false) := fun h => irB_false (.inr (.inr h))
  have VR : Hid (∀ i, i < R → rowB C xs bs zs i = false → irB R C xs bs zs = false) := fun i hi h => irB_row hi h
  have VT : Hid (bs.length = R → zs.length = C → (∀ i, i < R → rowB C xs bs zs i = true) → irB R C xs bs zs = true) := fun h1 h2 h3 => irB_true hm h1 h2 h3
  have RX : Hid (Rd w a xs) := h
  have RB : Hid (Rd w ab bs) := hb
  have RZ : Hid (RdQ w az zs) := hz
  have IY : Hid (∀ i j, i < R → j < C → i * C + j < xs.length ∧ IntKind.i64.wrap ((i : Int) * (C : Int)) = (i : Int) * (C : Int) ∧ IntKind.i64.wrap ((i : Int) * (C : Int) + (j : Int)) = ((i * C + j : Nat) : Int)) := fun i j hi hj => by
    have h1 : i * C + j < R * C := idx_lt hi hj
    have h2 : R * C ≤ 24 * 24 := Nat.mul_le_mul R24 C24
    have c1 : (i : Int) * (C : Int) = ((i * C : Nat) : Int) := (Int.natCast_mul _ _).symm
    refine ⟨by omega, IntWalk.i64_in _ (by rw [c1]; omega), ?_⟩
    rw [show (i : Int) * (C : Int) + (j : Int) = ((i * C + j : Nat) : Int) by rw [c1]; omega]
    exact IntWalk.i64_in _ (by omega)
  generalize irB R C xs bs zs = bb at V1 V2 VR VT ⊢
  obtain ⟨L, hL⟩ : ∃ L, xs.length = L := ⟨_, rfl⟩
  rw [hL] at IM K0 B0 IY hn hl ⊢
  obtain ⟨Lb, hLb⟩ : ∃ Lb, bs.length = Lb := ⟨_, rfl⟩
  obtain ⟨Lz, hLz⟩ : ∃ Lz, zs.length = Lz := ⟨_, rfl⟩
  rw [hLb] at V1 VT hbn ⊢
  rw [hLz] at V2 VT hzn ⊢
  have XB := Lib.hid hLb
  have XN := Lib.hid hL
  have XZ := Lib.hid hLz
  clear h hb hz hLb hLz hL hl hnx
  go_enter Tryz.func14, Tryz.ntmps14
  go_wp2_with fail
  refine (IM.out _ B0.out).mono ?_
  rintro e w1 ⟨rfl, hb1⟩
  rw [hm]
  have B1 := Lib.hid (B0.out.trans (hb1.mono B0.out.size))
  have K1 := Lib.hid (K0.out.step hb1)
  clear hb1 hm IM
  obtain ⟨p0, p1, p2, -, -, -⟩ := K1.out.all
  by_cases h1 : (Lb : Int) = R
  rotate_left
  · have V := Lib.hid (V1.out h1)
    have n1 : ((Lb : Int) != (R : Int)) = true := by simpa using h1
    go_wp2_with fail
    go_ret
    exact ⟨by rw [V.out]; rfl, B1.out⟩
  have n1 : ((Lb : Int) != (R : Int)) = false := by simp; omega
  by_cases h2 : (Lz : Int) = C
  rotate_left
  · have V := Lib.hid (V2.out h2)
    have n2 : ((Lz : Int) != (C : Int)) = true := by simpa using h2
    go_wp2_with fail
    go_ret
    exact ⟨by rw [V.out]; rfl, B1.out⟩
  have n2 : ((Lz : Int) != (C : Int)) = false := by simp; omega
  have h1 : Lb = R := by omega
  have h2 : Lz = C := by omega
  subst h1 h2
  go_wp2_with fail
  go_loopw [7] (fun v7 wr => ∃ i : Nat, v7 = .int .i64 i ∧ i ≤ Lb ∧ (∀ k, k < i → rowB Lz xs bs zs k = true) ∧ Blk3 wr w.heap.size 26 (.int .i64 Lb) (.int .i64 Lz) (.slice a L m) ∧ Below w.heap.size w wr) (fun v7 _ => Lb - (intOf v7).toNat)
  case atStart => exact ⟨0, rfl, by omega, fun k hk => by omega, K1.out, B1.out⟩
  case round =>
    obtain ⟨i, rfl, hi, hk, hK, hB⟩ := hrel
    have HK := Lib.hid hk
    have KO := Lib.hid hK
    have BO := Lib.hid hB
    clear hk hK hB K1 B1 p0 p1 p2
    obtain ⟨p0, p1, p2, -, -, -⟩ := KO.out.all
    by_cases hlt : i < Lb
    · have KM := Lib.hid (KO.out.old (.cells #[.int .i64 0, .int .i64 1] 40))
      have KS : Hid (Blk2 (wr.alloc (.cells #[.int .i64 0, .int .i64 1] 40)) wr.heap.size 40 (.int .i64 0) (.int .i64 1)) := Blk2.at_ _ _ _ rfl
      have BM := Lib.hid (BO.out.alloc BO.out.size (.cells #[.int .i64 0, .int .i64 1] 40))
      have s0 := BO.out.size
      have sK := KO.out.lt
      obtain ⟨g, hg⟩ : ∃ g, wr.heap.size = g := ⟨_, rfl⟩
      go_wp2_with fail
      rw [hg] at KS s0 sK
      generalize wr.alloc (.cells #[.int .i64 0, .int .i64 1] 40) = W at KM KS BM ⊢
      clear KO BO p0 p1 p2 hg
      go_loopw [9] (fun v9 wi => ∃ j : Nat, v9 = .int .i64 j ∧ j ≤ Lz ∧ Blk3 wi w.heap.size 26 (.int .i64 Lb) (.int .i64 Lz) (.slice a L m) ∧ Blk2 wi g 40 (.int .i64 (sumR (mxC Lz xs i) (atR zs) j).1) (.int .i64 (sumR (mxC Lz xs i) (atR zs) j).2) ∧ Below w.heap.size w wi) (fun v9 _ => Lz - (intOf v9).toNat)
      case atStart => exact ⟨0, rfl, by omega, KM.out, KS.out, BM.out⟩
      case round =>
        clear KM KS BM
        obtain ⟨j, rfl, hj, hK, hS8, hB⟩ := hrel
        have K0 := Lib.hid hK
        have K8 := Lib.hid hS8
        have BI := Lib.hid hB
        clear hK hS8 hB
        obtain ⟨p0, p1, p2, -, -, -⟩ := K0.out.all
        by_cases hjl : j < Lz
        · obtain ⟨x1, x2, x3⟩ := IY.out i j hlt hjl
          have XL := Lib.hid x1
          obtain ⟨b1, o1, rfl, hc1⟩ := (RX.out.below BI.out) (i * Lz + j) (by rw [XN.out]; exact x1)
          obtain ⟨b2, o2, rfl, -, hc2, hc3⟩ := (RZ.out.below BI.out) j (by rw [XZ.out]; exact hjl)
          have SS := Lib.hid (sumR_succ (mxC Lz xs i) (atR zs) j)
          have XE : Hid (mxC Lz xs i j = xs.getD (i * Lz + j) 0) := rfl
          have ZE : Hid (atR zs j = zs.getD j (0, 0)) := rfl
          obtain ⟨u, hu⟩ : ∃ u, xs.getD (i * Lz + j) 0 = u := ⟨_, rfl⟩
          obtain ⟨zn, hzn⟩ : ∃ z, (zs.getD j (0, 0)).1 = z := ⟨_, rfl⟩
          obtain ⟨zd, hzd⟩ : ∃ z, (zs.getD j (0, 0)).2 = z := ⟨_, rfl⟩
          have SS : Hid (sumR (mxC Lz xs i) (atR zs) (j + 1) = addR (sumR (mxC Lz xs i) (atR zs) j).1 (sumR (mxC Lz xs i) (atR zs) j).2 (mulR u 1 zn zd).1 (mulR u 1 zn zd).2) := by
            refine Lib.hid ?_
            rw [SS.out, XE.out, ZE.out, hu, hzn, hzd]
          have P0 : (0 : Int) ≤ ((i * Lz + j : Nat) : Int) := by omega
          have P1 : ((i * Lz + j : Nat) : Int) < (L : Int) := by omega
          obtain ⟨P, hP⟩ : ∃ P, i * Lz + j = P := ⟨_, rfl⟩
          rw [hu] at hc1
          rw [hzn] at hc2
          rw [hzd] at hc3
          rw [hP] at hc1 P0 P1 x3
          have X1 := Lib.hid hc1
          have Z1 := Lib.hid hc2
          have Z2 := Lib.hid hc3
          obtain ⟨ps, hps⟩ : ∃ p, (sumR (mxC Lz xs i) (atR zs) j).1 = p := ⟨_, rfl⟩
          obtain ⟨qs, hqs⟩ : ∃ p, (sumR (mxC Lz xs i) (atR zs) j).2 = p := ⟨_, rfl⟩
          rw [hps, hqs] at SS K8
          obtain ⟨sn, hsn⟩ : ∃ p, (mulR u 1 zn zd).1 = p := ⟨_, rfl⟩
          obtain ⟨sd, hsd⟩ : ∃ p, (mulR u 1 zn zd).2 = p := ⟨_, rfl⟩
          rw [hsn, hsd] at SS
          have MU : Hid (∀ w', Calls Tryz.prog 48 #[.agg #[.int .i64 u, .int .i64 1], .agg #[.int .i64 zn, .int .i64 zd]] w' (Gives (.agg #[.int .i64 sn, .int .i64 sd]) w')) := fun w' => by rw [← hsn, ← hsd]; exact sMul u 1 zn zd w'
          have AD : Hid (∀ w', Calls Tryz.prog 47 #[.agg #[.int .i64 ps, .int .i64 qs], .agg #[.int .i64 sn, .int .i64 sd]] w' (Gives (.agg #[.int .i64 (addR ps qs sn sd).1, .int .i64 (addR ps qs sn sd).2]) w')) := fun w' => sAdd ps qs sn sd w'
          clear hc1 hc2 hc3 hu hzn hzd hP hps hqs hsn hsd x1 p0 p1 p2
          obtain ⟨q0, q1, q2, -, -, -⟩ := K0.out.all
          go_wp2_with fail
          refine wp_region_T (S := fun w' => Below wr.heap.size wr w') (T := fun j => j == 18) (by kernel_rfl) (Below.refl _ _).drew (fun hH => ?_)
          refine wpAnyT_take (i := 0) (v := ?_) (by simp only [List.getElem?_toArray, List.getElem?_cons_zero]; rfl) (by kernel_rfl) (by kernel_rfl) (by kernel_rfl) (by kernel_rfl) (one_only 18 (by kernel_rfl)) (by exact fun _ _ _ h => h) (Or.inl ⟨by rfl, ?_⟩) hH ?_
          rotate_left
          · (intro wS hS; (try dsimp only at hS); obtain ⟨k1, k2, k3, k4, k5, k6, k7, k8⟩ := ratF K0.out K8.out X1.out Z1.out Z2.out hS; go_simp; try rfl)
          try simp only [Act.put, List.setIfInBounds_toArray, List.set_cons_zero, List.set_cons_succ]
          refine wpAnyT_take (i := 1) (v := ?_) (by simp only [List.getElem?_toArray, List.getElem?_cons_succ, List.getElem?_cons_zero]; rfl) (by kernel_rfl) (by kernel_rfl) (by kernel_rfl) (by kernel_rfl) (one_only 18 (by kernel_rfl)) (by exact fun _ _ _ h => h) (Or.inl ⟨by rfl, ?_⟩) hH ?_
          rotate_left
          · (intro wS hS; clear hS; go_simp; try rfl)
          try simp only [Act.put, List.setIfInBounds_toArray, List.set_cons_zero, List.set_cons_succ]
          refine wpAnyT_take (i := 2) (v := ?_) (by simp only [List.getElem?_toArray, List.getElem?_cons_succ, List.getElem?_cons_zero]; rfl) (by kernel_rfl) (by kernel_rfl) (by kernel_rfl) (by kernel_rfl) (one_only 18 (by kernel_rfl)) (by exact fun _ _ _ h => h) (Or.inl ⟨by rfl, ?_⟩) hH ?_
          rotate_left
          · (intro wS hS; (try dsimp only at hS); obtain ⟨k1, k2, k3, k4, k5, k6, k7, k8⟩ := ratF K0.out K8.out X1.out Z1.out Z2.out hS; go_simp; try rfl)
          try simp only [Act.put, List.setIfInBounds_toArray, List.set_cons_zero, List.set_cons_succ]
          refine wpAnyT_take (i := 3) (v := ?_) (by simp only [List.getElem?_toArray, List.getElem?_cons_succ, List.getElem?_cons_zero]; rfl) (by kernel_rfl) (by kernel_rfl) (by kernel_rfl) (by kernel_rfl) (one_only 18 (by kernel_rfl)) (by exact fun _ _ _ h => h) (Or.inl ⟨by rfl, ?_⟩) hH ?_
          rotate_left
          · (intro wS hS; clear hS; go_simp; try rfl)
          try simp only [Act.put, List.setIfInBounds_toArray, List.set_cons_zero, List.set_cons_succ]
          refine wpAnyT_take (i := 4) (v := ?_) (by simp only [List.getElem?_toArray, List.getElem?_cons_succ, List.getElem?_cons_zero]; rfl) (by kernel_rfl) (by kernel_rfl) (by kernel_rfl) (by kernel_rfl) (one_only 18 (by kernel_rfl)) (by exact fun _ _ _ h => h) (Or.inl ⟨by rfl, ?_⟩) hH ?_
          rotate_left
          · (intro wS hS; clear hS; go_simp; try rfl)
          try simp only [Act.put, List.setIfInBounds_toArray, List.set_cons_zero, List.set_cons_succ]
          refine wpAnyT_take (i := 5) (v := ?_) (by simp only [List.getElem?_toArray, List.getElem?_cons_succ, List.getElem?_cons_zero]; rfl) (by kernel_rfl) (by kernel_rfl) (by kernel_rfl) (by kernel_rfl) (one_only 18 (by kernel_rfl)) (by exact fun _ _ _ h => h) (Or.inl ⟨by rfl, ?_⟩) hH ?_
          rotate_left
          · (intro wS hS; (try dsimp only at hS); obtain ⟨k1, k2, k3, k4, k5, k6, k7, k8⟩ := ratF K0.out K8.out X1.out Z1.out Z2.out hS; go_simp; try rfl)
          try simp only [Act.put, List.setIfInBounds_toArray, List.set_cons_zero, List.set_cons_succ]
          refine wpAnyT_take (i := 6) (v := ?_) (by simp only [List.getElem?_toArray, List.getElem?_cons_succ, List.getElem?_cons_zero]; rfl) (by kernel_rfl) (by kernel_rfl) (by kernel_rfl) (by kernel_rfl) (one_only 18 (by kernel_rfl)) (by exact fun _ _ _ h => h) (Or.inl ⟨by rfl, ?_⟩) hH ?_
          rotate_left
          · (intro wS hS; clear hS; go_simp; try rfl)
          try simp only [Act.put, List.setIfInBounds_toArray, List.set_cons_zero, List.set_cons_succ]
          refine wpAnyT_take (i := 7) (v := ?_) (by simp only [List.getElem?_toArray, List.getElem?_cons_succ, List.getElem?_cons_zero]; rfl) (by kernel_rfl) (by kernel_rfl) (by kernel_rfl) (by kernel_rfl) (one_only 18 (by kernel_rfl)) (by exact fun _ _ _ h => h) (Or.inl ⟨by rfl, ?_⟩) hH ?_
          rotate_left
          · (intro wS hS; clear hS; go_simp; try rfl)
          try simp only [Act.put, List.setIfInBounds_toArray, List.set_cons_zero, List.set_cons_succ]
          refine wpAnyT_take (i := 8) (v := ?_) (by simp only [List.getElem?_toArray, List.getElem?_cons_succ, List.getElem?_cons_zero]; rfl) (by kernel_rfl) (by kernel_rfl) (by kernel_rfl) (by kernel_rfl) (one_only 18 (by kernel_rfl)) (by exact fun _ _ _ h => h) (Or.inl ⟨by rfl, ?_⟩) hH ?_
          rotate_left
          · (intro wS hS; clear hS; go_simp; try rfl)
          try simp only [Act.put, List.setIfInBounds_toArray, List.set_cons_zero, List.set_cons_succ]
          refine wpAnyT_take (i := 9) (v := ?_) (by simp only [List.getElem?_toArray, List.getElem?_cons_succ, List.getElem?_cons_zero]; rfl) (by kernel_rfl) (by kernel_rfl) (by kernel_rfl) (by kernel_rfl) (one_only 18 (by kernel_rfl)) (by exact fun _ _ _ h => h) (Or.inl ⟨by rfl, ?_⟩) hH ?_
          rotate_left
          · (intro wS hS; clear hS; go_simp; try rfl)
          try simp only [Act.put, List.setIfInBounds_toArray, List.set_cons_zero, List.set_cons_succ]
          refine wpAnyT_take (i := 10) (v := ?_) (by simp only [List.getElem?_toArray, List.getElem?_cons_succ, List.getElem?_cons_zero]; rfl) (by kernel_rfl) (by kernel_rfl) (by kernel_rfl) (by kernel_rfl) (one_only 18 (by kernel_rfl)) (by exact fun _ _ _ h => h) (Or.inl ⟨by rfl, ?_⟩) hH ?_
          rotate_left
          · (intro wS hS; (try dsimp only at hS); obtain ⟨k1, k2, k3, k4, k5, k6, k7, k8⟩ := ratF K0.out K8.out X1.out Z1.out Z2.out hS; go_simp; try rfl)
          try simp only [Act.put, List.setIfInBounds_toArray, List.set_cons_zero, List.set_cons_succ]
          refine wpAnyT_take (i := 11) (v := ?_) (by simp only [List.getElem?_toArray, List.getElem?_cons_succ, List.getElem?_cons_zero]; rfl) (by kernel_rfl) (by kernel_rfl) (by kernel_rfl) (by kernel_rfl) (one_only 18 (by kernel_rfl)) (by exact fun _ _ _ h => h) (Or.inl ⟨by rfl, ?_⟩) hH ?_
          rotate_left
          · (intro wS hS; clear hS; go_simp; try rfl)
          try simp only [Act.put, List.setIfInBounds_toArray, List.set_cons_zero, List.set_cons_succ]
          refine wpAnyT_take (i := 12) (v := ?_) (by simp only [List.getElem?_toArray, List.getElem?_cons_succ, List.getElem?_cons_zero]; rfl) (by kernel_rfl) (by kernel_rfl) (by kernel_rfl) (by kernel_rfl) (one_only 18 (by kernel_rfl)) (by exact fun _ _ _ h => h) (Or.inl ⟨by rfl, ?_⟩) hH ?_
          rotate_left
          · (intro wS hS; clear hS; go_simp; try rfl)
          try simp only [Act.put, List.setIfInBounds_toArray, List.set_cons_zero, List.set_cons_succ]
          refine wpAnyT_take (i := 13) (v := ?_) (by simp only [List.getElem?_toArray, List.getElem?_cons_succ, List.getElem?_cons_zero]; rfl) (by kernel_rfl) (by kernel_rfl) (by kernel_rfl) (by kernel_rfl) (one_only 18 (by kernel_rfl)) (by exact fun _ _ _ h => h) (Or.inl ⟨by rfl, ?_⟩) hH ?_
          rotate_left
          · (intro wS hS; clear hS; go_simp; try rfl)
          try simp only [Act.put, List.setIfInBounds_toArray, List.set_cons_zero, List.set_cons_succ]
          refine wpAnyT_take (i := 14) (v := ?_) (by simp only [List.getElem?_toArray, List.getElem?_cons_succ, List.getElem?_cons_zero]; rfl) (by kernel_rfl) (by kernel_rfl) (by kernel_rfl) (by kernel_rfl) (one_only 18 (by kernel_rfl)) (by exact fun _ _ _ h => h) (Or.inl ⟨by rfl, ?_⟩) hH ?_
          rotate_left
          · (intro wS hS; clear hS; go_simp; try rfl)
          try simp only [Act.put, List.setIfInBounds_toArray, List.set_cons_zero, List.set_cons_succ]
          refine wpAnyT_take (i := 15) (v := ?_) (by simp only [List.getElem?_toArray, List.getElem?_cons_succ, List.getElem?_cons_zero]; rfl) (by kernel_rfl) (by kernel_rfl) (by kernel_rfl) (by kernel_rfl) (one_only 18 (by kernel_rfl)) (by exact fun _ _ _ h => h) (Or.inl ⟨by rfl, ?_⟩) hH ?_
          rotate_left
          · (intro wS hS; (try dsimp only at hS); obtain ⟨k1, k2, k3, k4, k5, k6, k7, k8⟩ := ratF K0.out K8.out X1.out Z1.out Z2.out hS; go_simp; try rfl)
          try simp only [Act.put, List.setIfInBounds_toArray, List.set_cons_zero, List.set_cons_succ]
          refine wpAnyT_ready (rs := [16]) (by kernel_rfl) (by simp) ?_
          refine AllReadyT.cons (by simp only [List.getElem?_toArray, List.getElem?_cons_succ, List.getElem?_cons_zero]; rfl) (fun K hK => ?_) AllReadyT.nil
          go_simp
          (with_reducible refine (MU.out _).mono ?_)
          rintro e v1 ⟨rfl, hb1⟩
          try dsimp only
          refine hK.out _ _ (fun _ => hH.trans (hb1.mono hH.size)) ?_
          clear hK K
          have hH := hH.trans (hb1.mono hH.size)
          try simp only [Act.put, List.setIfInBounds_toArray, List.set_cons_zero, List.set_cons_succ]
          refine wpAnyT_ready (rs := [17]) (by kernel_rfl) (by simp) ?_
          refine AllReadyT.cons (by simp only [List.getElem?_toArray, List.getElem?_cons_succ, List.getElem?_cons_zero]; rfl) (fun K hK => ?_) AllReadyT.nil
          go_simp
          (with_reducible refine (AD.out _).mono ?_)
          rintro e v2 ⟨rfl, hb2⟩
          try dsimp only
          refine hK.out _ _ (fun _ => hH.trans (hb2.mono hH.size)) ?_
          clear hK K
          have hH := hH.trans (hb2.mono hH.size)
          try simp only [Act.put, List.setIfInBounds_toArray, List.set_cons_zero, List.set_cons_succ]
          refine wpAnyT_ready (rs := [18]) (by kernel_rfl) (by simp) ?_
          refine AllReadyT.cons (by simp only [List.getElem?_toArray, List.getElem?_cons_succ, List.getElem?_cons_zero]; rfl) (fun K hK => ?_) AllReadyT.nil
          have K8 := Lib.hid (K8.out.keep hH K8.out.lt)
          obtain ⟨c80, c81, f80, f81⟩ := K8.out.all
          go_simp
          try dsimp only
          refine hK.out _ _ (fun h => by cases h) ?_
          clear hK K
          try simp only [Act.put, List.setIfInBounds_toArray, List.set_cons_zero, List.set_cons_succ]
          refine wpAnyT_done (by kernel_rfl) ?_ _
          go_wp2_with fail
          go_roundw
          case rel =>
            refine ⟨j + 1, by go_num, by omega, ((K0.out.step hH).far (by show w.heap.size ≠ g; omega) _).far (by show w.heap.size ≠ g; omega) _, ?_, ?_⟩
            · rw [SS.out]
              exact (K8.out.set0 _).set1 _
            · exact ((BI.out.trans (hH.mono BI.out.size)).setCell (by show w.heap.size ≤ g; omega) _).setCell (by show w.heap.size ≤ g; omega) _
          case measure => simp [intOf]; omega
        · obtain rfl : j = Lz := by omega
          have RF : Hid (sumR (mxC j xs i) (atR zs) j ≠ (bs.getD i 0, 1) → rowB j xs bs zs i = false) := fun h => decide_eq_false h
          have RT : Hid (sumR (mxC j xs i) (atR zs) j = (bs.getD i 0, 1) → rowB j xs bs zs i = true) := fun h => decide_eq_true h
          obtain ⟨b3, o3, rfl, hc4⟩ := (RB.out.below BI.out) i (by rw [XB.out]; exact hlt)
          obtain ⟨x, hx⟩ : ∃ x, bs.getD i 0 = x := ⟨_, rfl⟩
          rw [hx] at hc4 RF RT
          obtain ⟨ps, hps⟩ : ∃ p, (sumR (mxC j xs i) (atR zs) j).1 = p := ⟨_, rfl⟩
          obtain ⟨qs, hqs⟩ : ∃ p, (sumR (mxC j xs i) (atR zs) j).2 = p := ⟨_, rfl⟩
          rw [hps, hqs] at K8
          have SP : Hid (sumR (mxC j xs i) (atR zs) j = (ps, qs)) := by show _ = _; rw [← hps, ← hqs]
          rw [SP.out] at RF RT
          obtain ⟨c80, c81, f80, f81⟩ := K8.out.all
          have i1 : (i : Int) < (Lb : Int) := by omega
          clear hx hps hqs SP
          by_cases e1 : qs = 1
          rotate_left
          · have V := Lib.hid (VR.out i hlt (RF.out fun h => e1 (congrArg Prod.snd h)))
            have n3 : (qs != 1) = true := by simpa using e1
            go_wp2_with fail
            go_quiet (fail)
            go_wp2_with fail
            go_ret
            exact ⟨by rw [V.out]; rfl, below_drewN BI.out _⟩
          subst e1
          by_cases e2 : ps = x
          rotate_left
          · have V := Lib.hid (VR.out i hlt (RF.out fun h => e2 (congrArg Prod.fst h)))
            have n3 : (ps != x) = true := by simpa using e2
            go_wp2_with fail
            go_quiet (fail)
            go_wp2_with fail
            go_ret
            exact ⟨by rw [V.out]; rfl, below_drewN BI.out _⟩
          subst e2
          have RR := Lib.hid (RT.out rfl)
          have HK2 : Hid (∀ k, k < i + 1 → rowB j xs bs zs k = true) := fun k hk => by
            rcases Nat.lt_or_ge k i with h3 | h3
            · exact HK.out k h3
            · obtain rfl : k = i := by omega
              exact RR.out
          have n3 : (ps != ps) = false := by simp
          go_wp2_with fail
          go_quiet (fail)
          go_wp2_with fail
          go_roundw
          case rel => exact ⟨i + 1, by go_num, by omega, HK2.out, K0.out, below_drewN BI.out _⟩
          case measure => simp [intOf]; omega
    · obtain rfl : i = Lb := by omega
      have V := Lib.hid (VT.out (by first | rfl | trivial) (by first | rfl | trivial) HK.out)
      go_wp2_with fail
      go_ret
      exact ⟨by rw [V.out]; rfl, BO.out⟩
end Go.Proofs.YtcapddcmnjeloaaGreatDoor
end

section
/-
  Chapter 11, in the model: a column replaced.
-/
namespace Go.Proofs.YtcapddcmnjeloaaGreatDoor
set_option maxRecDepth 100000
open Go.RowKit
end Go.Proofs.YtcapddcmnjeloaaGreatDoor
end

section
/-
  Chapter 11, in the model: SolveByEchelon.
-/
namespace Go.Proofs.YtcapddcmnjeloaaGreatDoor
set_option maxRecDepth 100000
open Go.RowKit
end Go.Proofs.YtcapddcmnjeloaaGreatDoor
end

section
/-
  A list of ints that may be nil is appended onto an empty list of the call's own: a copy in a block.
-/
namespace Go.Proofs.YtcapddcmnjeloaaGreatDoor
set_option maxRecDepth 100000
open Go.RowKit
theorem wpList_appendR {P : Program} {ops : Array Oper} {rest : List Oper} {o : Oper} {a : Act} {w : World} {Q : Exit → Act → World → Prop} (hgd : o.guard = none) (s x : Operand) (t : TypeId)
    (ho : o.op = .call { callee := .builtin .append, args := #[s, x], argTypes := #[t, t] }) (v1 v2 : Value) (hs : a.eval s = v1) (hx : a.eval x = v2) (v' : Value) (w' : World)
    (hr : (Builtin.append_ #[t, t] o.type #[v1, v2]).run P w = .ok v' w') (h : wpList P ops Q rest (a.put o.dst v') w') : wpList P ops Q (o :: rest) a w := by
  refine wpList_plain hgd fun K hK => ?_
  unfold Oper.wp execOp
  simp only [ho, resolve, invoke, builtin, Sem.run_bind, Sem.run_pure, Result.andThen_ok, List.map_toArray, List.map_cons, List.map_nil, hs, hx, hr]
  exact hK _ _ h
theorem append_nil (w : World) (a : Addr) (c mb : Nat) : (Builtin.append_ #[24, 24] 24 #[.slice (some a) 0 c, .slice none 0 mb]).run Tryz.prog w = .ok (.slice (some a) 0 c) w := by
  simp [Builtin.append_, go_sem]
theorem appendCopy (w : World) {B g : Nat} {ab : Option Addr} {bs : List Int} (hs : Spot ab) (mb : Nat) (h : Rd w ab bs) (hn : bs.length ≤ 16777216) (hB : B ≤ w.heap.size) (hg : IntsC w g 0 []) (hgB : B ≤ g) :
    ∃ g' cap w', (Builtin.append_ #[24, 24] 24 #[.slice (some ⟨g, 0, none⟩) 0 0, .slice ab bs.length mb]).run Tryz.prog w = .ok (.slice (some ⟨g', 0, none⟩) bs.length cap) w' ∧ Ints w' g' bs ∧ B ≤ g' ∧ w.grownBy w' (some g) := by
  rcases hs with rfl | ⟨b, o, rfl⟩
  · have hb : bs = [] := by
      cases bs with
      | nil => rfl
      | cons z zs => obtain ⟨_, _, e, _⟩ := h 0 (by simp); cases e
    subst hb
    obtain ⟨-, rest, -, hgg⟩ := hg
    exact ⟨g, 0, w, append_nil w _ 0 mb, ⟨rest, hgg⟩, hgB, ⟨rfl, rfl, rfl, Nat.le_refl _, fun _ _ _ => rfl⟩⟩
  · have own : w.ownsRow B 3 1 (.slice (some ⟨g, 0, none⟩) 0 0) 0 (([] : List Int).map (Value.int .i64)) := OwnQ.none_ hgB hg
    obtain ⟨v', w', hr, ho, hgr, hne⟩ := appendInts2 w B 0 bs.length mb (.slice (some ⟨g, 0, none⟩) 0 0) [] bs b o own h rfl (by omega) hB
    rw [Nat.zero_add, List.nil_append] at ho
    obtain ⟨-, ⟨rfl, -⟩ | ⟨g', cap, cur, rfl, hB2, hc, -, -, -, ht⟩⟩ := ho
    · exact absurd (hne.mp rfl).1 (by simp)
    · refine ⟨g', cap, w', hr, ⟨cur.toList.drop bs.length, ?_⟩, hB2, hgr⟩
      rw [hc]
      congr 1
      congr 1
      rw [Nat.mul_one] at ht
      rw [← ht, List.take_append_drop]
end Go.Proofs.YtcapddcmnjeloaaGreatDoor
end

section
/-
  A ratio is appended to a list of the call's own.
-/
namespace Go.Proofs.YtcapddcmnjeloaaGreatDoor
open Go.RowKit
theorem appendRat (w : World) {B : Nat} (v : Value) {l : List (Int × Int)} (p q : Int) (g : Nat) (h : OwnR B w v l) (hg : Blk2 w g 40 (.int .i64 p) (.int .i64 q)) (hl : l.length < 16777216) (hB : B ≤ w.heap.size) :
    ∃ v' w', (Builtin.append_ #[29, 29] 29 #[v, .slice (some ⟨g, 0, none⟩) 1 1]).run Tryz.prog w = .ok v' w' ∧ OwnR B w' v' (l ++ [(p, q)]) ∧ w.grownBy w' v.ownBlock := by
  obtain ⟨fi, hfi, hz0, hz1, hz2⟩ := facts_rat
  have news : ∀ j u, [Value.int .i64 p, Value.int .i64 q][j]? = some u → w.cell? ((⟨g, 0, none⟩ : Addr).add j) = some u := by
    intro j u hu
    obtain ⟨c0, c1, -, -⟩ := hg.all
    match j, hu with
    | 0, h => simp only [List.getElem?_cons_zero, Option.some.injEq] at h; subst h; exact c0
    | 1, h => simp only [List.getElem?_cons_succ, List.getElem?_cons_zero, Option.some.injEq] at h; subst h; exact c1
    | j + 2, h => simp at h
  have h0 := h
  unfold OwnR at h0
  obtain ⟨v', w', hr, ho, hgr, -, -⟩ := run_append_own_at (P := Tryz.prog) w B 29 29 40 fi (.agg #[.int .i64 0, .int .i64 0]) 2 16 underlying_rats hfi hz0 hz1 hz2 rfl (by decide) v l.length _ h0 ⟨g, 0, none⟩ 1 1 [.int .i64 p, .int .i64 q] rfl news
    (by intro u hu; simp only [List.mem_cons, List.not_mem_nil, or_false] at hu; rcases hu with rfl | rfl <;> rfl) (by unfold maxLen; omega) (by omega) hB
  refine ⟨v', w', hr, ?_, hgr⟩
  unfold OwnR
  rw [List.length_append, flatQ_snoc]
  exact ho
end Go.Proofs.YtcapddcmnjeloaaGreatDoor
end

section
/-
  Chapter 8, in the model: InverseMod.
-/
namespace Go.Proofs.YtcapddcmnjeloaaGreatDoor
set_option maxRecDepth 100000
open Go.RowKit
set_option maxHeartbeats 4000000 in
theorem sIvx (r c p : Int) (a : Option Addr) (m : Nat) (xs : List Int) (w : World) (h : Rd w a xs) (hn : xs.length ≤ 16777216) (ha : Spot a) :
    Calls Tryz.prog 66 #[.agg #[.int .i64 r, .int .i64 c, .slice a xs.length m], .int .i64 p] w (MatRes (ivX r c p xs) w) := by
  have RD : Hid (∀ w', Below w.heap.size w w' → Calls Tryz.prog 111 #[.agg #[.int .i64 r, .int .i64 c, .slice a xs.length m], .int .i64 p] w' (MatRes (redM r c p xs) w')) := fun w' hb => sRed r c p a m xs w' (h.below hb) hn ha
  have K0 : Hid (Blk3 ((w.alloc (.cells #[.int .i64 r, .int .i64 c, .slice a xs.length m] 26)).alloc (.cells #[.int .i64 0, .int .i64 0, .slice none 0 0] 26)) w.heap.size 26 (.int .i64 r) (.int .i64 c) (.slice a xs.length m)) := (Blk3.at_ _ _ _ _ rfl).old _
  have R0 : Hid (Blk3 ((w.alloc (.cells #[.int .i64 r, .int .i64 c, .slice a xs.length m] 26)).alloc (.cells #[.int .i64 0, .int .i64 0, .slice none 0 0] 26)) (w.heap.size + 1) 26 (.int .i64 0) (.int .i64 0) (.slice none 0 0)) := Blk3.at_ _ _ _ _ (by simp)
  have B0 : Hid (Below w.heap.size w ((w.alloc (.cells #[.int .i64 r, .int .i64 c, .slice a xs.length m] 26)).alloc (.cells #[.int .i64 0, .int .i64 0, .slice none 0 0] 26))) := ((Below.refl _ _).alloc (Nat.le_refl _) _).alloc (by simp) _
  have S0 : Hid (((w.alloc (.cells #[.int .i64 r, .int .i64 c, .slice a xs.length m] 26)).alloc (.cells #[.int .i64 0, .int .i64 0, .slice none 0 0] 26)).heap.size = w.heap.size + 2) := by show _ = _; simp
  rcases Bool.eq_false_or_eq_true (isMat r c xs && prmB p) with hh | hh
  · obtain ⟨R, C, N, rfl, rfl, hN, hR, hC, hx, hl, hp, hcan, e1, -, -⟩ := rkM_yes hh
    have N2 : Hid (R ≠ C → ivX R C p xs = MR.no) := fun h => ivX_no2 (by omega)
    have N3 : Hid (¬ R ≤ 12 → ivX R C p xs = MR.no) := fun h => ivX_no3 (by omega)
    have YY : Hid (R = C → R ≤ 12 → ivX R C p xs = if (elW p R xs).2.1.length < R then MR.no else ⟨true, R, R, hfTo R (elW p R xs).1 R 0⟩) := fun h1 h2 => by
      subst h1
      show _ = _
      rw [ivX_at hh h2, hfTo_all]
    rw [e1] at RD
    have PB := Lib.hid hp
    have HN := Lib.hid hN
    have HC := Lib.hid hcan
    have HX := Lib.hid hx
    have HL := Lib.hid hl
    rw [hx] at RD K0 R0 B0 S0 ⊢
    clear h hn ha hx hN hcan e1 hh hp hl
    generalize ivX R C p xs = RES at N2 N3 YY ⊢
    go_enter Tryz.func66, Tryz.ntmps66
    go_upto_region 1 with fail
    generalize (w.alloc (.cells #[.int .i64 R, .int .i64 C, .slice a N m] 26)).alloc (.cells #[.int .i64 0, .int .i64 0, .slice none 0 0] 26) = W0 at K0 R0 B0 S0 ⊢
    obtain ⟨p0, p1, p2, -, -, -⟩ := K0.out.all
    go_wp2_with fail
    refine (RD.out _ B0.out).mono ?_
    rintro e w1 ⟨v, rfl, own, hb⟩
    obtain ⟨q, cap, rfl, -, -⟩ := own.form
    dsimp only
    rw [HL.out]
    replace own := own.le (show w.heap.size ≤ _ by have := S0.out; omega)
    rw [HL.out] at own
    have s0 := S0.out
    have s1 := hb.size
    have Bx := B0.out.trans (hb.mono (by omega))
    have B2 := Lib.hid (Bx.alloc Bx.size (.cells #[.int .i64 R, .int .i64 C, .slice q N cap] 26))
    have Q2 := Lib.hid (own.elim.1.below ((Below.refl _ _).alloc (Nat.le_refl _) (.cells #[.int .i64 R, .int .i64 C, .slice q N cap] 26)))
    have A2 : Hid (Blk3 (w1.alloc (.cells #[.int .i64 R, .int .i64 C, .slice q N cap] 26)) w1.heap.size 26 (.int .i64 R) (.int .i64 C) (.slice q N cap)) := Blk3.at_ _ _ _ _ rfl
    have K2 := Lib.hid ((K0.out.step hb).old (.cells #[.int .i64 R, .int .i64 C, .slice q N cap] 26))
    have R2 := Lib.hid ((R0.out.step hb).old (.cells #[.int .i64 R, .int .i64 C, .slice q N cap] 26))
    have S2 : Hid ((w1.alloc (.cells #[.int .i64 R, .int .i64 C, .slice q N cap] 26)).heap.size = w1.heap.size + 1) := by show _ = _; simp
    clear hb own Bx K0 R0 B0 S0 p0 p1 p2 RD
    go_upto_region 2 with fail
    generalize w1.alloc (.cells #[.int .i64 R, .int .i64 C, .slice q N cap] 26) = W2 at B2 Q2 A2 K2 R2 S2 ⊢
    obtain ⟨b6, hb6⟩ : ∃ b6, w1.heap.size = b6 := ⟨_, rfl⟩
    obtain ⟨rb, hrb⟩ : ∃ rb, w.heap.size + 1 = rb := ⟨_, rfl⟩
    have s2 := S2.out
    rw [hb6] at A2 s2 ⊢
    rw [hrb] at R2 ⊢
    have l0 : w.heap.size ≤ rb := by omega
    have l1 : rb < b6 := by omega
    clear hb6 hrb s0 s1 S2 w1 W0
    obtain ⟨p0, p1, p2, -, -, -⟩ := K2.out.all
    by_cases hRC : R = C
    · have n1 : ((R : Int) != (C : Int)) = false := by simp [hRC]
      by_cases h12 : R ≤ 12
      · have YY := Lib.hid (YY.out hRC h12)
        have u9 : IntKind.i64.wrap (2 * (R : Int)) = 2 * (R : Int) := IntWalk.i64_in _ (by omega)
        obtain ⟨C2, hC2⟩ : ∃ C2, 2 * R = C2 := ⟨_, rfl⟩
        have u8 : IntKind.i64.wrap (2 * (R : Int)) = (C2 : Int) := by rw [u9, ← hC2]; omega
        have n3 : decide ((24 : Int) < (C2 : Int)) = false := decide_eq_false (by omega)
        obtain ⟨N2', hN2⟩ : ∃ N2, R * C2 = N2 := ⟨_, rfl⟩
        have HN2 := Lib.hid hN2
        have HC2 := Lib.hid hC2
        have lN2 : N2' ≤ 288 := by
          rw [← hN2]
          have : R * C2 ≤ 12 * 24 := Nat.mul_le_mul h12 (by omega)
          omega
        have IX : Hid (∀ i b, i < R → b < C2 → ∃ D P : Nat, i * C2 = D ∧ D + b = P ∧ P < N2' ∧ D ≤ 288 ∧ IntKind.i64.wrap ((i : Int) * 2) = (i : Int) * 2 ∧ IntKind.i64.wrap ((i : Int) * 2 * (R : Int)) = (D : Int)) := fun i b hi hb => by
          have h1 : i * C2 + b < R * C2 := idx_lt hi hb
          have h2 : (i : Int) * 2 * (R : Int) = ((i * C2 : Nat) : Int) := by rw [← HC2.out, Int.natCast_mul, Int.natCast_mul, Int.mul_assoc]; rfl
          refine ⟨i * C2, _, rfl, rfl, by omega, by omega, IntWalk.i64_in _ (by omega), ?_⟩
          rw [h2]
          exact IntWalk.i64_in _ (by omega)
        have IY : Hid (∀ i j, i < R → j < R → ∃ P : Nat, i * R + j = P ∧ P < N ∧ IntKind.i64.wrap ((i : Int) * (R : Int)) = (i : Int) * (R : Int) ∧ IntKind.i64.wrap ((i : Int) * (R : Int) + (j : Int)) = (P : Int)) := fun i j hi hj => by
          have h1 : i * R + j < R * R := idx_lt hi hj
          have h3 : R * R ≤ 12 * 12 := Nat.mul_le_mul h12 h12
          have c1 : (i : Int) * (R : Int) = ((i * R : Nat) : Int) := (Int.natCast_mul _ _).symm
          have h4 : N = R * R := by rw [HN.out, ← hRC]
          refine ⟨i * R + j, rfl, by omega, IntWalk.i64_in _ (by rw [c1]; omega), ?_⟩
          rw [show (i : Int) * (R : Int) + (j : Int) = ((i * R + j : Nat) : Int) by rw [c1]; omega]
          exact IntWalk.i64_in _ (by omega)
        have HNN : Hid (N = R * R) := by show _ = _; rw [HN.out, ← hRC]
        clear u9 hC2 hN2 N3 hRC
        go_wp2_with fail
        refine (sNew R C2 _ (by omega) (by have := HC2.out; omega)).mono ?_
        rintro e w3 ⟨g, rfl, hg, hi, hb⟩
        rw [HN2.out] at hi ⊢
        simp only [List.length_replicate]
        have z0 : wdTo p R xs 0 0 = List.replicate N2' 0 := by rw [wdTo_zero, HC2.out, HN2.out]
        rw [← z0] at hi
        have gl := hi.lt
        have lb6 := A2.out.lt
        have Bx := B2.out.trans (hb.mono B2.out.size)
        have B5 := Lib.hid (Bx.alloc Bx.size (.cells #[.int .i64 R, .int .i64 C2, .slice (some ⟨g, 0, none⟩) N2' N2'] 26))
        have R5 := Lib.hid ((R2.out.step hb).old (.cells #[.int .i64 R, .int .i64 C2, .slice (some ⟨g, 0, none⟩) N2' N2'] 26))
        have A5 := Lib.hid ((A2.out.step hb).old (.cells #[.int .i64 R, .int .i64 C2, .slice (some ⟨g, 0, none⟩) N2' N2'] 26))
        have I5 := Lib.hid (hi.old (.cells #[.int .i64 R, .int .i64 C2, .slice (some ⟨g, 0, none⟩) N2' N2'] 26))
        have T5 : Hid (Blk3 (w3.alloc (.cells #[.int .i64 R, .int .i64 C2, .slice (some ⟨g, 0, none⟩) N2' N2'] 26)) w3.heap.size 26 (.int .i64 R) (.int .i64 C2) (.slice (some ⟨g, 0, none⟩) N2' N2')) := Blk3.at_ _ _ _ _ rfl
        have E5 := Lib.hid (hb.alloc hb.size (.cells #[.int .i64 R, .int .i64 C2, .slice (some ⟨g, 0, none⟩) N2' N2'] 26))
        have sb := hb.size
        clear hb hi Bx z0 p0 p1 p2 K2 R2 A2 B2
        go_upto_region 6 with fail
        generalize w3.alloc (.cells #[.int .i64 R, .int .i64 C2, .slice (some ⟨g, 0, none⟩) N2' N2'] 26) = W5 at B5 R5 A5 I5 T5 E5 ⊢
        obtain ⟨b9, hb9⟩ : ∃ b9, w3.heap.size = b9 := ⟨_, rfl⟩
        rw [hb9] at T5 gl sb ⊢
        have lg9 : g < b9 := gl
        have l2 : W2.heap.size ≤ g := hg
        clear gl hg hb9 w3
        go_wp2_with fail
        go_loopw [10, 11] (fun v10 _ wr => ∃ i : Nat, v10 = .int .i64 i ∧ i ≤ R ∧ Ints wr g (wdTo p R xs i 0) ∧ W5.grownBy wr (some g)) (fun v10 _ _ => R - (intOf v10).toNat)
        case atStart => exact ⟨0, rfl, by omega, I5.out, World.grownBy.refl _ _⟩
        case round =>
          clear I5
          obtain ⟨i, rfl, hi, hI, hgr⟩ := hrel
          have I := Lib.hid hI
          have G := Lib.hid hgr
          clear hI hgr
          by_cases hlt : i < R
          · go_wp2_with fail
            go_loopw [11] (fun v11 wr => ∃ j : Nat, v11 = .int .i64 j ∧ j ≤ R ∧ Ints wr g (wdTo p R xs i j) ∧ W5.grownBy wr (some g)) (fun v11 _ => R - (intOf v11).toNat)
            case atStart => exact ⟨0, rfl, by omega, I.out, G.out⟩
            case round =>
              clear I G
              obtain ⟨j, rfl, hj, hI, hgr⟩ := hrel
              have I := Lib.hid hI
              have G := Lib.hid hgr
              clear hI hgr
              have A6 := Lib.hid (A5.out.keepOne G.out (by omega))
              have T6 := Lib.hid (T5.out.keepOne G.out (by omega))
              obtain ⟨p0, p1, p2, -, -, -⟩ := A6.out.all
              obtain ⟨q0, q1, q2, -, -, -⟩ := T6.out.all
              by_cases hjl : j < R
              · obtain ⟨D, P, hD, hP, hPN, hD2, u1, u2⟩ := IX.out i j hlt (by have := HC2.out; omega)
                have u3 : IntKind.i64.wrap ((D : Int) + (j : Int)) = (P : Int) := by rw [show (D : Int) + (j : Int) = (P : Int) by omega]; exact IntWalk.i64_in _ (by omega)
                obtain ⟨S, hS, hSN, u4, u5⟩ := IY.out i j hlt hjl
                obtain ⟨b1, o1, rfl, hc1⟩ := Q2.out S (by rw [HL.out]; exact hSN)
                have c1 := World.block_lt_of_cell? W2 _ hc1
                have hc1 := G.out.cell ((E5.out.cell (p := ⟨b1, o1 + S, none⟩) c1).trans hc1) (by simp; simp at c1; omega)
                have hold := I.out.cell (i := P) (by rw [wdTo_length, HC2.out, HN2.out]; exact hPN)
                have hfr := I.out.free P
                have ST : Hid ((wdTo p R xs i j).set P ((resL p xs).getD S 0) = wdTo p R xs i (j + 1)) := by
                  show _ = _
                  rw [← hP, ← hD, ← HC2.out, ← hS]
                  exact wdTo_cell hlt hjl
                obtain ⟨x, hx⟩ : ∃ x, (resL p xs).getD S 0 = x := ⟨_, rfl⟩
                rw [hx] at hc1 ST
                have IS := Lib.hid (I.out.drew.set P x)
                have GS := Lib.hid (grown_set_one (a := ⟨g, P, none⟩) (grown_drew_one G.out) rfl (.int .i64 x))
                clear hx hS hD hP c1
                have Pa : (0 : Int) ≤ (P : Int) := by omega
                have Pb : (P : Int) < (N2' : Int) := by omega
                have Sa : (0 : Int) ≤ (S : Int) := by omega
                have Sb : (S : Int) < (N : Int) := by omega
                go_wp2_with fail
                go_still_tail 18, (by kernel_rfl)
                go_wp2_with fail
                go_roundw
                case rel => exact ⟨j + 1, by go_num, by omega, by rw [← ST.out]; exact IS.out, GS.out⟩
                case measure => simp [intOf]; omega
              · obtain rfl : R = j := by omega
                obtain ⟨D, P, hD, hP, hPN, hD2, u1, u2⟩ := IX.out i (R + i) hlt (by have := HC2.out; omega)
                obtain ⟨F, hF⟩ : ∃ F, D + R = F := ⟨_, rfl⟩
                have u3 : IntKind.i64.wrap ((D : Int) + (R : Int)) = (F : Int) := by rw [show (D : Int) + (R : Int) = (F : Int) by omega]; exact IntWalk.i64_in _ (by omega)
                have u4 : IntKind.i64.wrap ((F : Int) + (i : Int)) = (P : Int) := by rw [show (F : Int) + (i : Int) = (P : Int) by omega]; exact IntWalk.i64_in _ (by omega)
                have hold := I.out.cell (i := P) (by rw [wdTo_length, HC2.out, HN2.out]; exact hPN)
                have hfr := I.out.free P
                have ST : Hid ((wdTo p R xs i R).set P 1 = wdTo p R xs (i + 1) 0) := by
                  show _ = _
                  rw [← hP, ← hD, ← HC2.out]
                  exact wdTo_row hlt
                have IS := Lib.hid (I.out.set P 1)
                have GS := Lib.hid (grown_set_one (a := ⟨g, P, none⟩) G.out rfl (.int .i64 1))
                clear hD hP hF hjl
                have Pa : (0 : Int) ≤ (P : Int) := by omega
                have Pb : (P : Int) < (N2' : Int) := by omega
                go_wp2_with fail
                go_roundw
                case rel => exact ⟨i + 1, by go_num, by omega, by rw [← ST.out]; exact IS.out, GS.out⟩
                case measure => simp [intOf]; omega
          · obtain rfl : R = i := by omega
            have T6 := Lib.hid (T5.out.keepOne G.out (by omega))
            have R6 := Lib.hid (R5.out.keepOne G.out (by omega))
            have B6 := Lib.hid (B5.out.trans (below_of_one G.out (by have := B5.out.size; omega) B5.out.size))
            have EL : Hid (∀ (cap : Nat) (w' : World), Ints w' g (wdTo p R xs R 0) → Calls Tryz.prog 113 #[.agg #[.int .i64 R, .int .i64 C2, .slice (some ⟨g, 0, none⟩) N2' cap], .int .i64 p, .int .i64 R] w' (ElP w' R C2 (elW p R xs))) := fun cap w' hi' => by
              rw [wdTo_all] at hi'
              have := sEl R C2 R N2' p (some ⟨g, 0, none⟩) cap (wideL p R xs) w' hi'.rd (.inr ⟨g, 0, rfl⟩) (by unfold wideL; rw [tab_length, HC2.out, HN2.out]) HN2.out.symm (by omega) (by have := HC2.out; omega) (by have := HC2.out; omega) PB.out (wideL_can (prmB_says PB.out).1 (by rw [HX.out, HNN.out]))
              unfold elW
              rw [← HC2.out] at this ⊢
              exact this
            obtain ⟨EW, hEW⟩ : ∃ EW, elW p R xs = EW := ⟨_, rfl⟩
            have LE : EW.1.length = N2' := by
              rw [← hEW]
              have := elW_len p R xs
              rw [HC2.out, HN2.out] at this
              exact this
            rw [hEW] at EL YY
            clear hEW
            obtain ⟨q0, q1, q2, -, -, -⟩ := T6.out.all
            go_wp2_with fail
            refine (EL.out _ _ I.out).mono ?_
            rintro e w7 ⟨va, vb, rfl, oa, ob, -, hb⟩
            obtain ⟨qa, ca, rfl, hra, -⟩ := oa.form
            obtain ⟨qb, cb, rfl, -, -⟩ := ob.form
            rw [pvI_length]
            rw [LE]
            have B7x := B6.out.trans (hb.mono B6.out.size)
            have B7 := Lib.hid (B7x.alloc B7x.size (.cells #[.int .i64 R, .int .i64 C2, .slice qa N2' ca] 26))
            have R7 := Lib.hid ((R6.out.step hb).old (.cells #[.int .i64 R, .int .i64 C2, .slice qa N2' ca] 26))
            have Q7 := Lib.hid (hra.below ((Below.refl _ _).alloc (Nat.le_refl _) (.cells #[.int .i64 R, .int .i64 C2, .slice qa N2' ca] 26)))
            have A7 : Hid (Blk3 (w7.alloc (.cells #[.int .i64 R, .int .i64 C2, .slice qa N2' ca] 26)) w7.heap.size 26 (.int .i64 R) (.int .i64 C2) (.slice qa N2' ca)) := Blk3.at_ _ _ _ _ rfl
            have s7 := R6.out.lt
            have s8 := hb.size
            have IXX := IX
            clear hb oa ob hra B7x q0 q1 q2 R6 T6 B6 I G EL IX
            go_upto_region 15 with fail
            generalize w7.alloc (.cells #[.int .i64 R, .int .i64 C2, .slice qa N2' ca] 26) = W7 at B7 R7 Q7 A7 ⊢
            obtain ⟨b12, hb12⟩ : ∃ b12, w7.heap.size = b12 := ⟨_, rfl⟩
            rw [hb12] at A7 ⊢
            have l3 : rb < b12 := by omega
            clear hb12 s7 s8 w7
            by_cases hlt2 : EW.2.1.length < R
            · have RX : Hid (RES = MR.no) := by show _ = _; rw [YY.out, if_pos hlt2]
              obtain ⟨r0, r1, r2, f0, f1, f2⟩ := R7.out.all
              go_wp2_with fail
              obtain ⟨E0, E1, E2, -, -, -⟩ := (((R7.out.set0 (.int .i64 0)).set1 (.int .i64 0)).set2 (.slice none 0 0)).all
              rw [RX.out]
              exact bodyPost_ret (v := .tuple #[.agg #[.int .i64 0, .int .i64 0, .slice none 0 0], .bool false]) (by simp [results, Tryz.results66, go_sem, E0, E1, E2]) rfl ⟨_, rfl, .inl ⟨rfl, rfl⟩, ((B7.out.setCell l0 _).setCell l0 _).setCell l0 _⟩
            · have RX : Hid (RES = ⟨true, R, R, hfTo R EW.1 R 0⟩) := by show _ = _; rw [YY.out, if_neg hlt2]
              go_wp2_with fail
              refine (sNew R R _ (by omega) (by omega)).mono ?_
              rintro e w8 ⟨g2, rfl, hg2, hi2, hb2⟩
              rw [← HNN.out] at hi2 ⊢
              simp only [List.length_replicate]
              have z0 : hfTo R EW.1 0 0 = List.replicate N 0 := by rw [hfTo_zero, HNN.out]
              rw [← z0] at hi2
              have gl := hi2.lt
              have Bx := B7.out.trans (hb2.mono B7.out.size)
              have B8 := Lib.hid (Bx.alloc Bx.size (.cells #[.int .i64 R, .int .i64 R, .slice (some ⟨g2, 0, none⟩) N N] 26))
              have R8 := Lib.hid ((R7.out.step hb2).old (.cells #[.int .i64 R, .int .i64 R, .slice (some ⟨g2, 0, none⟩) N N] 26))
              have A8 := Lib.hid ((A7.out.step hb2).old (.cells #[.int .i64 R, .int .i64 R, .slice (some ⟨g2, 0, none⟩) N N] 26))
              have I8 := Lib.hid (hi2.old (.cells #[.int .i64 R, .int .i64 R, .slice (some ⟨g2, 0, none⟩) N N] 26))
              have T8 : Hid (Blk3 (w8.alloc (.cells #[.int .i64 R, .int .i64 R, .slice (some ⟨g2, 0, none⟩) N N] 26)) w8.heap.size 26 (.int .i64 R) (.int .i64 R) (.slice (some ⟨g2, 0, none⟩) N N)) := Blk3.at_ _ _ _ _ rfl
              have E8 := Lib.hid (hb2.alloc hb2.size (.cells #[.int .i64 R, .int .i64 R, .slice (some ⟨g2, 0, none⟩) N N] 26))
              have sb := hb2.size
              have la7 := A7.out.lt
              have lr7 := R7.out.lt
              have lw7 := B7.out.size
              clear hb2 hi2 Bx z0 R7 A7 B7
              go_upto_region 18 with fail
              generalize w8.alloc (.cells #[.int .i64 R, .int .i64 R, .slice (some ⟨g2, 0, none⟩) N N] 26) = W8 at B8 R8 A8 I8 T8 E8 ⊢
              obtain ⟨b15, hb15⟩ : ∃ b15, w8.heap.size = b15 := ⟨_, rfl⟩
              rw [hb15] at T8 gl sb ⊢
              have lg15 : g2 < b15 := gl
              have l4 : W7.heap.size ≤ g2 := hg2
              have l5 : w.heap.size ≤ g2 := by omega
              clear gl hg2 hb15 w8 hlt2
              go_wp2_with fail
              go_loopw [16, 17] (fun v16 _ wr => ∃ i : Nat, v16 = .int .i64 i ∧ i ≤ R ∧ Ints wr g2 (hfTo R EW.1 i 0) ∧ W8.grownBy wr (some g2)) (fun v16 _ _ => R - (intOf v16).toNat)
              case atStart => exact ⟨0, rfl, by omega, I8.out, World.grownBy.refl _ _⟩
              case round =>
                clear I8
                obtain ⟨i, rfl, hi, hI, hgr⟩ := hrel
                have I := Lib.hid hI
                have G := Lib.hid hgr
                clear hI hgr
                by_cases hlt : i < R
                · go_wp2_with fail
                  go_loopw [17] (fun v17 wr => ∃ j : Nat, v17 = .int .i64 j ∧ j ≤ R ∧ Ints wr g2 (hfTo R EW.1 i j) ∧ W8.grownBy wr (some g2)) (fun v17 _ => R - (intOf v17).toNat)
                  case atStart => exact ⟨0, rfl, by omega, I.out, G.out⟩
                  case round =>
                    clear I G
                    obtain ⟨j, rfl, hj, hI, hgr⟩ := hrel
                    have I := Lib.hid hI
                    have G := Lib.hid hgr
                    clear hI hgr
                    have A9 := Lib.hid (A8.out.keepOne G.out (by omega))
                    have T9 := Lib.hid (T8.out.keepOne G.out (by omega))
                    obtain ⟨p0, p1, p2, -, -, -⟩ := A9.out.all
                    obtain ⟨q0, q1, q2, -, -, -⟩ := T9.out.all
                    by_cases hjl : j < R
                    · obtain ⟨D, P, hD, hP, hPN, hD2, u1, u2⟩ := IXX.out i (R + j) hlt (by have := HC2.out; omega)
                      obtain ⟨F, hF⟩ : ∃ F, D + R = F := ⟨_, rfl⟩
                      have u3 : IntKind.i64.wrap ((D : Int) + (R : Int)) = (F : Int) := by rw [show (D : Int) + (R : Int) = (F : Int) by omega]; exact IntWalk.i64_in _ (by omega)
                      have u6 : IntKind.i64.wrap ((F : Int) + (j : Int)) = (P : Int) := by rw [show (F : Int) + (j : Int) = (P : Int) by omega]; exact IntWalk.i64_in _ (by omega)
                      obtain ⟨S, hS, hSN, u4, u5⟩ := IY.out i j hlt hjl
                      obtain ⟨b1, o1, rfl, hc1⟩ := Q7.out P (by rw [LE]; exact hPN)
                      have c1 := World.block_lt_of_cell? W7 _ hc1
                      have hc1 := G.out.cell ((E8.out.cell (p := ⟨b1, o1 + P, none⟩) c1).trans hc1) (by simp; simp at c1; omega)
                      have hold := I.out.cell (i := S) (by rw [hfTo_length, ← HNN.out]; exact hSN)
                      have hfr := I.out.free S
                      have ST : Hid ((hfTo R EW.1 i j).set S (EW.1.getD P 0) = hfTo R EW.1 i (j + 1)) := by
                        show _ = _
                        rw [← hP, ← hD, ← HC2.out, ← hS]
                        exact hfTo_cell hlt hjl
                      obtain ⟨x, hx⟩ : ∃ x, EW.1.getD P 0 = x := ⟨_, rfl⟩
                      rw [hx] at hc1 ST
                      have IS := Lib.hid (I.out.drew.set S x)
                      have GS := Lib.hid (grown_set_one (a := ⟨g2, S, none⟩) (grown_drew_one G.out) rfl (.int .i64 x))
                      clear hx hS hD hP c1 hF
                      have Pa : (0 : Int) ≤ (P : Int) := by omega
                      have Pb : (P : Int) < (N2' : Int) := by omega
                      have Sa : (0 : Int) ≤ (S : Int) := by omega
                      have Sb : (S : Int) < (N : Int) := by omega
                      go_wp2_with fail
                      go_still_tail 20, (by kernel_rfl)
                      go_wp2_with fail
                      go_roundw
                      case rel => exact ⟨j + 1, by go_num, by omega, by rw [← ST.out]; exact IS.out, GS.out⟩
                      case measure => simp [intOf]; omega
                    · obtain rfl : R = j := by omega
                      have RW : Hid (hfTo R EW.1 i R = hfTo R EW.1 (i + 1) 0) := hfTo_row
                      rw [RW.out] at I
                      clear hjl
                      go_wp2_with fail
                      go_roundw
                      case rel => exact ⟨i + 1, by go_num, by omega, I.out, G.out⟩
                      case measure => simp [intOf]; omega
                · obtain rfl : R = i := by omega
                  have T9 := Lib.hid (T8.out.keepOne G.out (by omega))
                  have R9 := Lib.hid (R8.out.keepOne G.out (by omega))
                  have B9 := Lib.hid (B8.out.trans (below_of_one G.out l5 B8.out.size))
                  obtain ⟨q0, q1, q2, -, -, -⟩ := T9.out.all
                  obtain ⟨r0, r1, r2, f0, f1, f2⟩ := R9.out.all
                  have LN : (hfTo R EW.1 R 0).length = N := by rw [hfTo_length, HNN.out]
                  have lN : N ≤ 144 := by rw [HNN.out]; exact Nat.mul_le_mul h12 h12
                  go_wp2_with fail
                  obtain ⟨E0, E1, E2, -, -, -⟩ := (((R9.out.set0 (.int .i64 R)).set1 (.int .i64 R)).set2 (.slice (some ⟨g2, 0, none⟩) N N)).all
                  rw [RX.out]
                  refine bodyPost_ret (v := .tuple #[.agg #[.int .i64 R, .int .i64 R, .slice (some ⟨g2, 0, none⟩) N N], .bool true]) (by simp [results, Tryz.results66, go_sem, E0, E1, E2]) rfl ⟨_, rfl, .inr ⟨g2, N, by rw [LN], l5, ?_, by rw [LN]; exact Nat.le_refl _, by rw [LN]; omega⟩, ((B9.out.setCell l0 _).setCell l0 _).setCell l0 _⟩
                  exact ((I.out.far (a := ⟨rb, 0, none⟩) (by show g2 ≠ rb; omega) _).far (a := ⟨rb, 1, none⟩) (by show g2 ≠ rb; omega) _).far (a := ⟨rb, 2, none⟩) (by show g2 ≠ rb; omega) _
      · have RX := Lib.hid (N3.out h12)
        have n2 : decide ((24 : Int) < 2 * (R : Int)) = true := decide_eq_true (by omega)
        have u9 : IntKind.i64.wrap (2 * (R : Int)) = 2 * (R : Int) := IntWalk.i64_in _ (by omega)
        obtain ⟨r0, r1, r2, f0, f1, f2⟩ := R2.out.all
        go_wp2_with fail
        obtain ⟨E0, E1, E2, -, -, -⟩ := (((R2.out.set0 (.int .i64 0)).set1 (.int .i64 0)).set2 (.slice none 0 0)).all
        rw [RX.out]
        exact bodyPost_ret (v := .tuple #[.agg #[.int .i64 0, .int .i64 0, .slice none 0 0], .bool false]) (by simp [results, Tryz.results66, go_sem, E0, E1, E2]) rfl ⟨_, rfl, .inl ⟨rfl, rfl⟩, ((B2.out.setCell l0 _).setCell l0 _).setCell l0 _⟩
    · have n1 : ((R : Int) != (C : Int)) = true := by simp; omega
      have RX := Lib.hid (N2.out hRC)
      obtain ⟨r0, r1, r2, f0, f1, f2⟩ := R2.out.all
      go_wp2_with fail
      obtain ⟨E0, E1, E2, -, -, -⟩ := (((R2.out.set0 (.int .i64 0)).set1 (.int .i64 0)).set2 (.slice none 0 0)).all
      rw [RX.out]
      exact bodyPost_ret (v := .tuple #[.agg #[.int .i64 0, .int .i64 0, .slice none 0 0], .bool false]) (by simp [results, Tryz.results66, go_sem, E0, E1, E2]) rfl ⟨_, rfl, .inl ⟨rfl, rfl⟩, ((B2.out.setCell l0 _).setCell l0 _).setCell l0 _⟩
  · have RX : Hid (ivX r c p xs = MR.no) := ivX_no1 hh
    rw [(rkM_no hh).2.1] at RD
    obtain ⟨L, hL⟩ : ∃ L, xs.length = L := ⟨_, rfl⟩
    rw [hL] at RD K0 R0 B0 S0 ⊢
    clear h hn ha hh hL K0
    go_enter Tryz.func66, Tryz.ntmps66
    go_upto_region 1 with fail
    have B0' := B0.out
    go_wp2_with fail
    refine (RD.out _ B0.out).mono ?_
    rintro e w1 ⟨v, rfl, own, hb⟩
    obtain ⟨q, cap, rfl, -, -⟩ := own.form
    have s0 := S0.out
    have s1 := hb.size
    have Bx := B0.out.trans (hb.mono (by omega))
    have B2 := Lib.hid (Bx.alloc Bx.size (.cells #[.int .i64 MR.no.r, .int .i64 MR.no.c, .slice q MR.no.zs.length cap] 26))
    have R2 := Lib.hid ((R0.out.step hb).old (.cells #[.int .i64 MR.no.r, .int .i64 MR.no.c, .slice q MR.no.zs.length cap] 26))
    have l0 : w.heap.size ≤ w.heap.size + 1 := Nat.le_succ _
    clear hb own Bx B0' B0 R0
    have ok : MR.no.ok = false := rfl
    rw [ok]
    obtain ⟨r0, r1, r2, f0, f1, f2⟩ := R2.out.all
    go_wp2_with fail
    obtain ⟨E0, E1, E2, -, -, -⟩ := (((R2.out.set0 (.int .i64 0)).set1 (.int .i64 0)).set2 (.slice none 0 0)).all
    rw [RX.out]
    exact bodyPost_ret (v := .tuple #[.agg #[.int .i64 0, .int .i64 0, .slice none 0 0], .bool false]) (by simp [results, Tryz.results66, go_sem, E0, E1, E2]) rfl ⟨_, rfl, .inl ⟨rfl, rfl⟩, ((B2.out.setCell l0 _).setCell l0 _).setCell l0 _⟩
end Go.Proofs.YtcapddcmnjeloaaGreatDoor
end

section
/-
  Chapter 10, in the model: IsImage, ResidueOf, RatioFrom.
-/
namespace Go.Proofs.YtcapddcmnjeloaaGreatDoor
set_option maxRecDepth 100000
open Go.RowKit
theorem res_size {m : Int} (h : 1 ≤ m ∧ m ≤ 400000000) (a b : Int) : (0 ≤ a % m ∧ a % m < m) ∧ (0 ≤ b % m ∧ b % m < m) ∧ (0 ≤ a % m * (b % m) ∧ a % m * (b % m) ≤ 160000000000000000) := by
  have a0 := Int.emod_nonneg a (show m ≠ 0 by omega)
  have a1 := Int.emod_lt_of_pos a (show 0 < m by omega)
  have b0 := Int.emod_nonneg b (show m ≠ 0 by omega)
  have b1 := Int.emod_lt_of_pos b (show 0 < m by omega)
  obtain ⟨-, h2⟩ := mul_sm (a % m) (b % m) ⟨by omega, by omega⟩ ⟨by omega, by omega⟩
  exact ⟨⟨a0, a1⟩, ⟨b0, b1⟩, Int.mul_nonneg a0 b0, h2⟩
set_option maxHeartbeats 1000000 in
theorem sImage (n d a m : Int) (w : World) : Calls Tryz.prog 114 #[.agg #[.int .i64 n, .int .i64 d], .int .i64 a, .int .i64 m] w (Gives (.bool (imB n d a m)) w) := by
  rcases Bool.eq_false_or_eq_true (isRat n d) with hr | hr
  rotate_left
  · have E : Hid (imB n d a m = false) := imB_no (.inl (imA_rat hr))
    go_enter Tryz.func114, Tryz.ntmps114
    go_wp2_with fail
    refine (sIsRat n d _).mono ?_
    rintro e w1 ⟨rfl, hb⟩
    have B : Hid (Below w.heap.size w w1) := Below.trans (by repeat (first | exact Below.refl _ _ | refine Below.alloc ?_ (by simp <;> omega) _)) (hb.mono (by simp <;> omega))
    clear hb
    rw [hr]
    go_wp2_with fail
    go_ret
    exact ⟨by rw [E.out]; rfl, B.out⟩
  have pr : IsRatP n d := of_decide_eq_true hr
  obtain ⟨r1, r2, r3, r4, -⟩ := pr
  by_cases ha : NumP a
  rotate_left
  · have E : Hid (imB n d a m = false) := imB_no (.inr ha)
    have ha' : a < -400000000 ∨ 400000000 < a := by unfold NumP at ha; omega
    clear ha
    go_enter Tryz.func114, Tryz.ntmps114
    go_wp2_with fail
    refine (sIsRat n d _).mono ?_
    rintro e w1 ⟨rfl, hb⟩
    have B : Hid (Below w.heap.size w w1) := Below.trans (by repeat (first | exact Below.refl _ _ | refine Below.alloc ?_ (by simp <;> omega) _)) (hb.mono (by simp <;> omega))
    clear hb
    rw [hr]
    go_wp2_with fail
    refine (sIsNum_f a _ ha').mono ?_
    rintro e w' ⟨rfl, rfl⟩
    go_wp2_with fail
    go_ret
    exact ⟨by rw [E.out]; rfl, B.out⟩
  by_cases hm : 1 ≤ m ∧ m ≤ 400000000
  rotate_left
  · have E : Hid (imB n d a m = false) := imB_no (.inl (imA_mod hm))
    have hm' : m < 1 ∨ 400000000 < m := by omega
    clear hm
    go_enter Tryz.func114, Tryz.ntmps114
    go_wp2_with fail
    refine (sIsRat n d _).mono ?_
    rintro e w1 ⟨rfl, hb⟩
    have B : Hid (Below w.heap.size w w1) := Below.trans (by repeat (first | exact Below.refl _ _ | refine Below.alloc ?_ (by simp <;> omega) _)) (hb.mono (by simp <;> omega))
    clear hb
    rw [hr]
    go_wp2_with fail
    refine (sIsNum_t a _ ha.1 ha.2).mono ?_
    rintro e w' ⟨rfl, rfl⟩
    go_wp2_with fail
    refine (sIn_f m 1 400000000 _ hm').mono ?_
    rintro e w' ⟨rfl, rfl⟩
    go_wp2_with fail
    go_ret
    exact ⟨by rw [E.out]; rfl, B.out⟩
  by_cases hg : d.gcd m = 1
  rotate_left
  · have E : Hid (imB n d a m = false) := imB_no (.inl (imA_gcd hg))
    have n0 : (((d.gcd m : Nat) : Int) != 1) = true := by simp; omega
    go_enter Tryz.func114, Tryz.ntmps114
    go_wp2_with fail
    refine (sIsRat n d _).mono ?_
    rintro e w1 ⟨rfl, hb⟩
    have K0 : Hid (Blk2 w1 w.heap.size 40 (.int .i64 n) (.int .i64 d)) := (Blk2.at_ _ _ _ rfl).keep hb (by simp <;> omega)
    have B : Hid (Below w.heap.size w w1) := Below.trans (by repeat (first | exact Below.refl _ _ | refine Below.alloc ?_ (by simp <;> omega) _)) (hb.mono (by simp <;> omega))
    obtain ⟨K0a, K0b, K0c, K0d⟩ := K0.out.all
    clear hb
    rw [hr]
    go_wp2_with fail
    refine (sIsNum_t a _ ha.1 ha.2).mono ?_
    rintro e w' ⟨rfl, rfl⟩
    go_wp2_with fail
    refine (sIn_t m 1 400000000 _ hm.1 hm.2).mono ?_
    rintro e w' ⟨rfl, rfl⟩
    go_wp2_with fail
    refine (sGcd d m _ ⟨by omega, r2⟩ ⟨by omega, hm.2⟩).mono ?_
    rintro e w' ⟨rfl, k, rfl⟩
    generalize ((d.gcd m : Nat) : Int) = gg at n0 ⊢
    go_wp2_with fail
    go_ret
    exact ⟨by rw [E.out]; rfl, below_drewN B.out _⟩
  have g1 : ((d.gcd m : Nat) : Int) = 1 := by rw [hg]; rfl
  have E : Hid (∀ b, b = decide ((a % m * (d % m) - n) % m = 0) → imB n d a m = b) := fun b hb => imB_eq (imA_true hr hm hg) ha hb
  obtain ⟨⟨y0, y1⟩, ⟨z0, z1⟩, q0, q1⟩ := res_size hm a d
  have d0 : Int.tmod d m = d % m := Int.tmod_eq_emod_of_nonneg (by omega)
  have MY : Hid (∀ w', Calls Tryz.prog 67 #[.int .i64 a, .int .i64 m] w' fun e w2 => e = .returned (.int .i64 (a % m)) ∧ w' = w2) := fun w' => sMod a m w' (by omega) (by omega)
  obtain ⟨y, hy⟩ : ∃ y, a % m = y := ⟨_, rfl⟩
  obtain ⟨z, hz⟩ : ∃ z, d % m = z := ⟨_, rfl⟩
  rw [hy] at y0 y1 q0 q1 E MY
  rw [hz] at z0 z1 q0 q1 d0 E
  have MZ : Hid (∀ w', Calls Tryz.prog 67 #[.int .i64 (y * z - n), .int .i64 m] w' fun e w2 => e = .returned (.int .i64 ((y * z - n) % m)) ∧ w' = w2) := fun w' => sMod (y * z - n) m w' (by omega) (by omega)
  have n1 : (m == 0) = false := by simp; omega
  clear hy hz hg
  go_enter Tryz.func114, Tryz.ntmps114
  go_wp2_with fail
  refine (sIsRat n d _).mono ?_
  rintro e w1 ⟨rfl, hb⟩
  have K0 : Hid (Blk2 w1 w.heap.size 40 (.int .i64 n) (.int .i64 d)) := (Blk2.at_ _ _ _ rfl).keep hb (by simp <;> omega)
  have B : Hid (Below w.heap.size w w1) := Below.trans (by repeat (first | exact Below.refl _ _ | refine Below.alloc ?_ (by simp <;> omega) _)) (hb.mono (by simp <;> omega))
  obtain ⟨K0a, K0b, K0c, K0d⟩ := K0.out.all
  clear hb
  rw [hr]
  go_wp2_with fail
  refine (sIsNum_t a _ ha.1 ha.2).mono ?_
  rintro e w' ⟨rfl, rfl⟩
  go_wp2_with fail
  refine (sIn_t m 1 400000000 _ hm.1 hm.2).mono ?_
  rintro e w' ⟨rfl, rfl⟩
  go_wp2_with fail
  refine (sGcd d m _ ⟨by omega, r2⟩ ⟨by omega, hm.2⟩).mono ?_
  rintro e w' ⟨rfl, k, rfl⟩
  rw [g1]
  have K0 : Hid (Blk2 (w1.drewN k) w.heap.size 40 (.int .i64 n) (.int .i64 d)) := K0.out.drewN k
  obtain ⟨K1a, K1b, K1c, K1d⟩ := K0.out.all
  go_wp2_with fail
  go_quiet ((first | (with_reducible refine (MY.out _).mono ?_; rintro e wq ⟨rfl, rfl⟩; exact ⟨rfl, _, rfl⟩) | (with_reducible refine (MZ.out _).mono ?_; rintro e wq ⟨rfl, rfl⟩; exact ⟨rfl, _, rfl⟩)))
  go_wp2_with fail
  go_ret
  exact ⟨by rw [E.out ((y * z - n) % m == 0) rfl]; rfl, below_drewN (below_drewN B.out _) _⟩
end Go.Proofs.YtcapddcmnjeloaaGreatDoor
end

section
/-
  Chapter 10, in the model: RatioFrom.
-/
namespace Go.Proofs.YtcapddcmnjeloaaGreatDoor
set_option maxRecDepth 100000
open Go.RowKit
set_option maxHeartbeats 2000000 in
theorem sRatio (a m b : Int) (w : World) : Calls Tryz.prog 68 #[.int .i64 a, .int .i64 m, .int .i64 b] w (Gives (.tuple #[.agg #[.int .i64 (rtX a m b).1, .int .i64 (rtX a m b).2.1], .bool (rtX a m b).2.2]) w) := by
  by_cases ha : NumP a
  rotate_left
  · have V : Hid (rtX a m b = (0, 0, false)) := rtX_no fun h => ha h.1
    have ha' : a < -400000000 ∨ 400000000 < a := by unfold NumP at ha; omega
    clear ha
    go_enter Tryz.func68, Tryz.ntmps68
    go_wp2_with fail
    have K0 : Hid (Blk2 (w.alloc (.cells #[.int .i64 0, .int .i64 0] 40)) w.heap.size 40 (.int .i64 0) (.int .i64 0)) := Blk2.at_ _ _ _ rfl
    have B0 : Hid (Below w.heap.size w (w.alloc (.cells #[.int .i64 0, .int .i64 0] 40))) := (Below.refl _ _).alloc (Nat.le_refl _) _
    generalize w.alloc (.cells #[.int .i64 0, .int .i64 0] 40) = W at K0 B0 ⊢
    obtain ⟨K0a, K0b, K0c, K0d⟩ := K0.out.all
    refine (sIsNum_f a _ ha').mono ?_
    rintro e w' ⟨rfl, rfl⟩
    go_wp2_with fail
    obtain ⟨E0, E1, -, -⟩ := ((K0.out.set0 (.int .i64 0)).set1 (.int .i64 0)).all
    refine bodyPost_ret (v := .tuple #[.agg #[.int .i64 0, .int .i64 0], .bool false]) (by simp [results, Tryz.results68, go_sem, E0, E1]) rfl ⟨by rw [V.out], ?_⟩
    exact (B0.out.setCell (Nat.le_refl _) _).setCell (Nat.le_refl _) _
  by_cases hm : 1 ≤ m ∧ m ≤ 400000000
  rotate_left
  · have V : Hid (rtX a m b = (0, 0, false)) := rtX_no fun h => hm h.2.1
    have hm' : m < 1 ∨ 400000000 < m := by omega
    clear hm
    go_enter Tryz.func68, Tryz.ntmps68
    go_wp2_with fail
    have K0 : Hid (Blk2 (w.alloc (.cells #[.int .i64 0, .int .i64 0] 40)) w.heap.size 40 (.int .i64 0) (.int .i64 0)) := Blk2.at_ _ _ _ rfl
    have B0 : Hid (Below w.heap.size w (w.alloc (.cells #[.int .i64 0, .int .i64 0] 40))) := (Below.refl _ _).alloc (Nat.le_refl _) _
    generalize w.alloc (.cells #[.int .i64 0, .int .i64 0] 40) = W at K0 B0 ⊢
    obtain ⟨K0a, K0b, K0c, K0d⟩ := K0.out.all
    refine (sIsNum_t a _ ha.1 ha.2).mono ?_
    rintro e w' ⟨rfl, rfl⟩
    go_wp2_with fail
    refine (sIn_f m 1 400000000 _ hm').mono ?_
    rintro e w' ⟨rfl, rfl⟩
    go_wp2_with fail
    obtain ⟨E0, E1, -, -⟩ := ((K0.out.set0 (.int .i64 0)).set1 (.int .i64 0)).all
    refine bodyPost_ret (v := .tuple #[.agg #[.int .i64 0, .int .i64 0], .bool false]) (by simp [results, Tryz.results68, go_sem, E0, E1]) rfl ⟨by rw [V.out], ?_⟩
    exact (B0.out.setCell (Nat.le_refl _) _).setCell (Nat.le_refl _) _
  by_cases hb : 1 ≤ b ∧ b ≤ 20000
  rotate_left
  · have V : Hid (rtX a m b = (0, 0, false)) := rtX_no fun h => hb h.2.2.1
    have hb' : b < 1 ∨ 20000 < b := by omega
    clear hb
    go_enter Tryz.func68, Tryz.ntmps68
    go_wp2_with fail
    have K0 : Hid (Blk2 (w.alloc (.cells #[.int .i64 0, .int .i64 0] 40)) w.heap.size 40 (.int .i64 0) (.int .i64 0)) := Blk2.at_ _ _ _ rfl
    have B0 : Hid (Below w.heap.size w (w.alloc (.cells #[.int .i64 0, .int .i64 0] 40))) := (Below.refl _ _).alloc (Nat.le_refl _) _
    generalize w.alloc (.cells #[.int .i64 0, .int .i64 0] 40) = W at K0 B0 ⊢
    obtain ⟨K0a, K0b, K0c, K0d⟩ := K0.out.all
    refine (sIsNum_t a _ ha.1 ha.2).mono ?_
    rintro e w' ⟨rfl, rfl⟩
    go_wp2_with fail
    refine (sIn_t m 1 400000000 _ hm.1 hm.2).mono ?_
    rintro e w' ⟨rfl, rfl⟩
    go_wp2_with fail
    refine (sIn_f b 1 20000 _ hb').mono ?_
    rintro e w' ⟨rfl, rfl⟩
    go_wp2_with fail
    obtain ⟨E0, E1, -, -⟩ := ((K0.out.set0 (.int .i64 0)).set1 (.int .i64 0)).all
    refine bodyPost_ret (v := .tuple #[.agg #[.int .i64 0, .int .i64 0], .bool false]) (by simp [results, Tryz.results68, go_sem, E0, E1]) rfl ⟨by rw [V.out], ?_⟩
    exact (B0.out.setCell (Nat.le_refl _) _).setCell (Nat.le_refl _) _
  have sq0 : 0 ≤ 2 * b * b ∧ 2 * b * b ≤ 800000000 := by
    have h1 := Int.mul_nonneg (show 0 ≤ 2 * b by omega) (show 0 ≤ b by omega)
    have h2 : 2 * b * b ≤ 40000 * 20000 := Int.mul_le_mul (by omega) hb.2 (by omega) (by decide)
    omega
  by_cases hq : 2 * b * b < m
  rotate_left
  · have V : Hid (rtX a m b = (0, 0, false)) := rtX_no fun h => hq h.2.2.2
    have hq' : m ≤ 2 * b * b := by omega
    clear hq
    go_enter Tryz.func68, Tryz.ntmps68
    go_wp2_with fail
    have K0 : Hid (Blk2 (w.alloc (.cells #[.int .i64 0, .int .i64 0] 40)) w.heap.size 40 (.int .i64 0) (.int .i64 0)) := Blk2.at_ _ _ _ rfl
    have B0 : Hid (Below w.heap.size w (w.alloc (.cells #[.int .i64 0, .int .i64 0] 40))) := (Below.refl _ _).alloc (Nat.le_refl _) _
    generalize w.alloc (.cells #[.int .i64 0, .int .i64 0] 40) = W at K0 B0 ⊢
    obtain ⟨K0a, K0b, K0c, K0d⟩ := K0.out.all
    refine (sIsNum_t a _ ha.1 ha.2).mono ?_
    rintro e w' ⟨rfl, rfl⟩
    go_wp2_with fail
    refine (sIn_t m 1 400000000 _ hm.1 hm.2).mono ?_
    rintro e w' ⟨rfl, rfl⟩
    go_wp2_with fail
    refine (sIn_t b 1 20000 _ hb.1 hb.2).mono ?_
    rintro e w' ⟨rfl, rfl⟩
    go_wp2_with fail
    obtain ⟨E0, E1, -, -⟩ := ((K0.out.set0 (.int .i64 0)).set1 (.int .i64 0)).all
    refine bodyPost_ret (v := .tuple #[.agg #[.int .i64 0, .int .i64 0], .bool false]) (by simp [results, Tryz.results68, go_sem, E0, E1]) rfl ⟨by rw [V.out], ?_⟩
    exact (B0.out.setCell (Nat.le_refl _) _).setCell (Nat.le_refl _) _
  have A : Hid (RtA a m b) := ⟨ha, hm, hb, hq⟩
  obtain ⟨I0, gb0⟩ := A.out.start
  have I0 := Lib.hid I0
  have n1 : (m == 0) = false := by simp; omega
  go_enter Tryz.func68, Tryz.ntmps68
  go_wp2_with fail
  have K0 : Hid (Blk2 (w.alloc (.cells #[.int .i64 0, .int .i64 0] 40)) w.heap.size 40 (.int .i64 0) (.int .i64 0)) := Blk2.at_ _ _ _ rfl
  have B0 : Hid (Below w.heap.size w (w.alloc (.cells #[.int .i64 0, .int .i64 0] 40))) := (Below.refl _ _).alloc (Nat.le_refl _) _
  generalize w.alloc (.cells #[.int .i64 0, .int .i64 0] 40) = W at K0 B0 ⊢
  obtain ⟨K0a, K0b, K0c, K0d⟩ := K0.out.all
  refine (sIsNum_t a _ ha.1 ha.2).mono ?_
  rintro e w' ⟨rfl, rfl⟩
  go_wp2_with fail
  refine (sIn_t m 1 400000000 _ hm.1 hm.2).mono ?_
  rintro e w' ⟨rfl, rfl⟩
  go_wp2_with fail
  refine (sIn_t b 1 20000 _ hb.1 hb.2).mono ?_
  rintro e w' ⟨rfl, rfl⟩
  go_wp2_with fail
  refine (sMod a m _ (by omega) (by omega)).mono ?_
  rintro e w' ⟨rfl, rfl⟩
  go_wp2_with fail
  go_loopw [8, 9, 10, 11] (fun sg sx sh su wr => ∃ g x h u : Int, sg = .int .i64 g ∧ sx = .int .i64 x ∧ sh = .int .i64 h ∧ su = .int .i64 u ∧ RInv m a g x h u ∧ b < g ∧ g ≤ 400000000 ∧ wr = W) (fun _ _ sh _ _ => (intOf sh).natAbs)
  case atStart => exact ⟨m, 0, a % m, 1, rfl, rfl, rfl, rfl, I0.out, gb0, hm.2, by first | rfl | trivial⟩
  case round =>
    obtain ⟨g, x, h, u, rfl, rfl, rfl, rfl, hI, gb, g4, rfl⟩ := hrel
    have I := Lib.hid hI
    have h0 := hI.low
    have h1 := hI.less
    have u1 := hI.small.1
    clear hI
    by_cases hh : b < h
    · have x1 := I.out.small.2 (by omega)
      obtain ⟨⟨p1, p2⟩, ⟨p3, p4⟩, p5, p6⟩ := I.out.parts (by omega)
      have J := Lib.hid (I.out.step (by omega))
      have d0 : Int.tdiv g h = g / h := Int.tdiv_eq_ediv_of_nonneg (by omega)
      have v1 := J.out.small.1
      have l1 := J.out.less
      have l0 := J.out.low
      obtain ⟨q, hq2⟩ : ∃ q, g / h = q := ⟨_, rfl⟩
      rw [hq2] at p1 p2 p3 p4 p5 p6 d0 v1 l1 l0 J
      have n2 : (h == 0) = false := by simp; omega
      clear hq2
      go_wp2_with fail
      go_roundw
      case rel => exact ⟨h, u, g - q * h, x - q * u, rfl, rfl, rfl, rfl, J.out, hh, by omega, by first | rfl | trivial⟩
      case measure => simp [intOf]; omega
    · by_cases hu : u < 0
      · obtain ⟨s, hs⟩ : ∃ s, -h = s := ⟨_, rfl⟩
        obtain ⟨t, ht⟩ : ∃ t, -u = t := ⟨_, rfl⟩
        have hs1 : -400000000 ≤ s ∧ s ≤ 400000000 := by omega
        have ht1 : -400000000 ≤ t ∧ t ≤ 400000000 := by omega
        have HS := Lib.hid ((if_pos hu : (if u < 0 then -h else h) = -h).trans hs)
        have HT := Lib.hid ((if_pos hu : (if u < 0 then -u else u) = -u).trans ht)
        have AY : Hid (t ≤ b → imB s t a m = true → rtX a m b = (s, t, true)) := fun h1 h2 => I.out.ans_yes A.out (by omega) gb HS.out HT.out h1 h2
        have AN : Hid (b < t ∨ imB s t a m = false → rtX a m b = (0, 0, false)) := fun h1 => I.out.ans_no A.out (by omega) gb HS.out HT.out h1
        have K1 : Hid (Blk2 (wr.alloc (.cells #[.int .i64 s, .int .i64 t] 40)) w.heap.size 40 (.int .i64 0) (.int .i64 0)) := K0.out.old _
        have K3 : Hid (Blk2 (wr.alloc (.cells #[.int .i64 s, .int .i64 t] 40)) wr.heap.size 40 (.int .i64 s) (.int .i64 t)) := Blk2.at_ _ _ _ rfl
        have B1 : Hid (Below w.heap.size w (wr.alloc (.cells #[.int .i64 s, .int .i64 t] 40))) := B0.out.alloc B0.out.size _
        obtain ⟨K1a, K1b, K1c, K1d⟩ := K1.out.all
        obtain ⟨K3a, K3b, K3c, K3d⟩ := K3.out.all
        by_cases htb : b < t
        · have V := Lib.hid (AN.out (.inl htb))
          go_wp2_with fail
          obtain ⟨E0, E1, -, -⟩ := ((K1.out.set0 (.int .i64 0)).set1 (.int .i64 0)).all
          refine bodyPost_ret (v := .tuple #[.agg #[.int .i64 0, .int .i64 0], .bool false]) (by simp [results, Tryz.results68, go_sem, E0, E1]) rfl ⟨by rw [V.out], ?_⟩
          exact (B1.out.setCell (Nat.le_refl _) _).setCell (Nat.le_refl _) _
        · go_wp2_with fail
          refine (sImage s t a m _).mono ?_
          rintro e w2 ⟨rfl, hb2⟩
          have K2 := Lib.hid (K1.out.keep hb2 K1.out.lt)
          have K4 := Lib.hid (K3.out.keep hb2 K3.out.lt)
          have B2 := Lib.hid (B1.out.trans (hb2.mono B1.out.size))
          obtain ⟨K2a, K2b, K2c, K2d⟩ := K2.out.all
          obtain ⟨K4a, K4b, K4c, K4d⟩ := K4.out.all
          clear hb2
          generalize imB s t a m = ib at AY AN ⊢
          cases ib with
          | false =>
            have V := Lib.hid (AN.out (.inr rfl))
            go_wp2_with fail
            obtain ⟨E0, E1, -, -⟩ := ((K2.out.set0 (.int .i64 0)).set1 (.int .i64 0)).all
            refine bodyPost_ret (v := .tuple #[.agg #[.int .i64 0, .int .i64 0], .bool false]) (by simp [results, Tryz.results68, go_sem, E0, E1]) rfl ⟨by rw [V.out], ?_⟩
            exact (B2.out.setCell (Nat.le_refl _) _).setCell (Nat.le_refl _) _
          | true =>
            have V := Lib.hid (AY.out (by omega) rfl)
            go_wp2_with fail
            obtain ⟨E0, E1, -, -⟩ := ((K2.out.set0 (.int .i64 s)).set1 (.int .i64 t)).all
            refine bodyPost_ret (v := .tuple #[.agg #[.int .i64 s, .int .i64 t], .bool true]) (by simp [results, Tryz.results68, go_sem, E0, E1]) rfl ⟨by rw [V.out], ?_⟩
            exact (B2.out.setCell (Nat.le_refl _) _).setCell (Nat.le_refl _) _
      · have HS : Hid ((if u < 0 then -h else h) = h) := if_neg hu
        have HT : Hid ((if u < 0 then -u else u) = u) := if_neg hu
        have AY : Hid (u ≤ b → imB h u a m = true → rtX a m b = (h, u, true)) := fun h1 h2 => I.out.ans_yes A.out (by omega) gb HS.out HT.out h1 h2
        have AN : Hid (b < u ∨ imB h u a m = false → rtX a m b = (0, 0, false)) := fun h1 => I.out.ans_no A.out (by omega) gb HS.out HT.out h1
        have K1 : Hid (Blk2 (wr.alloc (.cells #[.int .i64 h, .int .i64 u] 40)) w.heap.size 40 (.int .i64 0) (.int .i64 0)) := K0.out.old _
        have K3 : Hid (Blk2 (wr.alloc (.cells #[.int .i64 h, .int .i64 u] 40)) wr.heap.size 40 (.int .i64 h) (.int .i64 u)) := Blk2.at_ _ _ _ rfl
        have B1 : Hid (Below w.heap.size w (wr.alloc (.cells #[.int .i64 h, .int .i64 u] 40))) := B0.out.alloc B0.out.size _
        obtain ⟨K1a, K1b, K1c, K1d⟩ := K1.out.all
        obtain ⟨K3a, K3b, K3c, K3d⟩ := K3.out.all
        by_cases htb : b < u
        · have V := Lib.hid (AN.out (.inl htb))
          go_wp2_with fail
          obtain ⟨E0, E1, -, -⟩ := ((K1.out.set0 (.int .i64 0)).set1 (.int .i64 0)).all
          refine bodyPost_ret (v := .tuple #[.agg #[.int .i64 0, .int .i64 0], .bool false]) (by simp [results, Tryz.results68, go_sem, E0, E1]) rfl ⟨by rw [V.out], ?_⟩
          exact (B1.out.setCell (Nat.le_refl _) _).setCell (Nat.le_refl _) _
        · go_wp2_with fail
          refine (sImage h u a m _).mono ?_
          rintro e w2 ⟨rfl, hb2⟩
          have K2 := Lib.hid (K1.out.keep hb2 K1.out.lt)
          have K4 := Lib.hid (K3.out.keep hb2 K3.out.lt)
          have B2 := Lib.hid (B1.out.trans (hb2.mono B1.out.size))
          obtain ⟨K2a, K2b, K2c, K2d⟩ := K2.out.all
          obtain ⟨K4a, K4b, K4c, K4d⟩ := K4.out.all
          clear hb2
          generalize imB h u a m = ib at AY AN ⊢
          cases ib with
          | false =>
            have V := Lib.hid (AN.out (.inr rfl))
            go_wp2_with fail
            obtain ⟨E0, E1, -, -⟩ := ((K2.out.set0 (.int .i64 0)).set1 (.int .i64 0)).all
            refine bodyPost_ret (v := .tuple #[.agg #[.int .i64 0, .int .i64 0], .bool false]) (by simp [results, Tryz.results68, go_sem, E0, E1]) rfl ⟨by rw [V.out], ?_⟩
            exact (B2.out.setCell (Nat.le_refl _) _).setCell (Nat.le_refl _) _
          | true =>
            have V := Lib.hid (AY.out (by omega) rfl)
            go_wp2_with fail
            obtain ⟨E0, E1, -, -⟩ := ((K2.out.set0 (.int .i64 h)).set1 (.int .i64 u)).all
            refine bodyPost_ret (v := .tuple #[.agg #[.int .i64 h, .int .i64 u], .bool true]) (by simp [results, Tryz.results68, go_sem, E0, E1]) rfl ⟨by rw [V.out], ?_⟩
            exact (B2.out.setCell (Nat.le_refl _) _).setCell (Nat.le_refl _) _
end Go.Proofs.YtcapddcmnjeloaaGreatDoor
end
