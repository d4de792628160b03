/-
  Texts of this seat, joined: RatOpS · SvRat · RatOpI · RtI · RqOpen
-/
import Derived.BigQuiet
import Derived.Deep.QuietTactic
import Derived.ChangeSlices
import Derived.OpenShut
import Derived.Lib.SmallJoins
import Derived.Test.YtcapddcmnjeloaaPk1
import Derived.Test.YtcapddcmnjeloaaPk3
import Derived.Test.YtcapddcmnjeloaaPk5
import Derived.Test.YtcapddcmnjeloaaPk12
import Derived.Test.YtcapddcmnjeloaaPk13

section
/-
  Chapter 2, in the model: sums, products, quotients.
-/
namespace Go.Proofs.Ytcapddcmnjeloaa
open Go.RowKit

set_option maxHeartbeats 800000 in
theorem sAdd (a b c d : Int) (w : World) : Calls Try.prog 62 #[.agg #[.int .i64 a, .int .i64 b], .agg #[.int .i64 c, .int .i64 d]] w (Gives (ratV (addR a b c d)) w) := by
  rcases Bool.eq_false_or_eq_true (isRat a b) with ha | ha
  · rcases Bool.eq_false_or_eq_true (isRat c d) with hc | hc
    · have L : Hid (addR a b c d = low (a * d + c * b) (b * d)) := by show addR a b c d = _; unfold addR; rw [ha, hc]; rfl
      have pa := isRat_in (of_decide_eq_true ha)
      have pc := isRat_in (of_decide_eq_true hc)
      obtain ⟨m1, m2⟩ := mul_sm a d pa.1 pc.2
      obtain ⟨m3, m4⟩ := mul_sm c b pc.1 pa.2
      obtain ⟨m5, m6⟩ := mul_sm b d pa.2 pc.2
      obtain ⟨m7, m8⟩ := mul_sm a c pa.1 pc.1
      obtain ⟨m9, m10⟩ := mul_sm b c pa.2 pc.1
      go_enter Try.func62, Try.ntmps62
      go_wp2_with fail
      refine (sIsRat a b _).mono ?_
      rintro e w1 ⟨rfl, hb⟩
      have K0 : Hid (Blk2 w1 w.heap.size 80 (.int .i64 a) (.int .i64 b)) := (((Blk2.at_ _ _ _ rfl).old _).old _).keep hb (by simp <;> omega)
      have K1 : Hid (Blk2 w1 (w.heap.size + 1) 80 (.int .i64 c) (.int .i64 d)) := ((Blk2.at_ _ _ _ (by simp)).old _).keep hb (by simp <;> omega)
      have K2 : Hid (Blk2 w1 (w.heap.size + 1 + 1) 80 (.int .i64 0) (.int .i64 0)) := (Blk2.at_ _ _ _ (by simp)).keep hb (by simp <;> omega)
      have B : Hid (Below w.heap.size w w1) := Below.trans (by repeat (first | exact Below.refl _ _ | refine Below.alloc ?_ (by simp <;> omega) _)) (hb.mono (by simp <;> omega))
      obtain ⟨K0a1, K0b1, K0c1, K0d1⟩ := K0.out.all
      obtain ⟨K1a1, K1b1, K1c1, K1d1⟩ := K1.out.all
      obtain ⟨K2a1, K2b1, K2c1, K2d1⟩ := K2.out.all
      clear hb
      rw [ha]
      go_wp2_with fail
      refine (sIsRat c d _).mono ?_
      rintro e w2 ⟨rfl, hb⟩
      have K0 : Hid (Blk2 w2 w.heap.size 80 (.int .i64 a) (.int .i64 b)) := K0.out.keep hb K0.out.lt
      have K1 : Hid (Blk2 w2 (w.heap.size + 1) 80 (.int .i64 c) (.int .i64 d)) := K1.out.keep hb K1.out.lt
      have K2 : Hid (Blk2 w2 (w.heap.size + 1 + 1) 80 (.int .i64 0) (.int .i64 0)) := K2.out.keep hb K2.out.lt
      have B := Lib.hid (B.out.trans (hb.mono B.out.size))
      obtain ⟨K0a2, K0b2, K0c2, K0d2⟩ := K0.out.all
      obtain ⟨K1a2, K1b2, K1c2, K1d2⟩ := K1.out.all
      obtain ⟨K2a2, K2b2, K2c2, K2d2⟩ := K2.out.all
      clear hb
      rw [hc]
      go_wp2_with fail
      refine (sMake (a * d + c * b) (b * d) _ (by omega) (by omega)).mono ?_
      rintro e w3 ⟨rfl, hb⟩
      have K2 : Hid (Blk2 w3 (w.heap.size + 1 + 1) 80 (.int .i64 0) (.int .i64 0)) := K2.out.keep hb K2.out.lt
      have B := Lib.hid (B.out.trans (hb.mono B.out.size))
      obtain ⟨K2a3, K2b3, K2c3, K2d3⟩ := K2.out.all
      clear hb
      unfold ratV
      go_wp2_with fail
      obtain ⟨E0, E1, -, -⟩ := ((K2.out.set0 (.int .i64 (low (a * d + c * b) (b * d)).1)).set1 (.int .i64 (low (a * d + c * b) (b * d)).2)).all
      refine bodyPost_ret (v := ratV (low (a * d + c * b) (b * d))) (by simp [results, Try.results62, go_sem, E0, E1, ratV]) rfl ⟨by rw [L.out], ?_⟩
      exact (B.out.setCell (by show w.heap.size ≤ w.heap.size + 1 + 1; omega) _).setCell (by show w.heap.size ≤ w.heap.size + 1 + 1; omega) _
    · have L : Hid (addR a b c d = (0, 0)) := by show addR a b c d = _; unfold addR; rw [ha, hc]; rfl
      go_enter Try.func62, Try.ntmps62
      go_wp2_with fail
      refine (sIsRat a b _).mono ?_
      rintro e w1 ⟨rfl, hb⟩
      have K0 : Hid (Blk2 w1 w.heap.size 80 (.int .i64 a) (.int .i64 b)) := (((Blk2.at_ _ _ _ rfl).old _).old _).keep hb (by simp <;> omega)
      have K1 : Hid (Blk2 w1 (w.heap.size + 1) 80 (.int .i64 c) (.int .i64 d)) := ((Blk2.at_ _ _ _ (by simp)).old _).keep hb (by simp <;> omega)
      have K2 : Hid (Blk2 w1 (w.heap.size + 1 + 1) 80 (.int .i64 0) (.int .i64 0)) := (Blk2.at_ _ _ _ (by simp)).keep hb (by simp <;> omega)
      have B : Hid (Below w.heap.size w w1) := Below.trans (by repeat (first | exact Below.refl _ _ | refine Below.alloc ?_ (by simp <;> omega) _)) (hb.mono (by simp <;> omega))
      obtain ⟨K0a1, K0b1, K0c1, K0d1⟩ := K0.out.all
      obtain ⟨K1a1, K1b1, K1c1, K1d1⟩ := K1.out.all
      obtain ⟨K2a1, K2b1, K2c1, K2d1⟩ := K2.out.all
      clear hb
      rw [ha]
      go_wp2_with fail
      refine (sIsRat c d _).mono ?_
      rintro e w2 ⟨rfl, hb⟩
      have K0 : Hid (Blk2 w2 w.heap.size 80 (.int .i64 a) (.int .i64 b)) := K0.out.keep hb K0.out.lt
      have K1 : Hid (Blk2 w2 (w.heap.size + 1) 80 (.int .i64 c) (.int .i64 d)) := K1.out.keep hb K1.out.lt
      have K2 : Hid (Blk2 w2 (w.heap.size + 1 + 1) 80 (.int .i64 0) (.int .i64 0)) := K2.out.keep hb K2.out.lt
      have B := Lib.hid (B.out.trans (hb.mono B.out.size))
      obtain ⟨K0a2, K0b2, K0c2, K0d2⟩ := K0.out.all
      obtain ⟨K1a2, K1b2, K1c2, K1d2⟩ := K1.out.all
      obtain ⟨K2a2, K2b2, K2c2, K2d2⟩ := K2.out.all
      clear hb
      rw [hc]
      go_wp2_with fail
      obtain ⟨E0, E1, -, -⟩ := ((K2.out.set0 (.int .i64 0)).set1 (.int .i64 0)).all
      refine bodyPost_ret (v := ratV (0, 0)) (by simp [results, Try.results62, go_sem, E0, E1, ratV]) rfl ⟨by rw [L.out], ?_⟩
      exact (B.out.setCell (by show w.heap.size ≤ w.heap.size + 1 + 1; omega) _).setCell (by show w.heap.size ≤ w.heap.size + 1 + 1; omega) _
  · have L : Hid (addR a b c d = (0, 0)) := by show addR a b c d = _; unfold addR; rw [ha]; rfl
    go_enter Try.func62, Try.ntmps62
    go_wp2_with fail
    refine (sIsRat a b _).mono ?_
    rintro e w1 ⟨rfl, hb⟩
    have K0 : Hid (Blk2 w1 w.heap.size 80 (.int .i64 a) (.int .i64 b)) := (((Blk2.at_ _ _ _ rfl).old _).old _).keep hb (by simp <;> omega)
    have K1 : Hid (Blk2 w1 (w.heap.size + 1) 80 (.int .i64 c) (.int .i64 d)) := ((Blk2.at_ _ _ _ (by simp)).old _).keep hb (by simp <;> omega)
    have K2 : Hid (Blk2 w1 (w.heap.size + 1 + 1) 80 (.int .i64 0) (.int .i64 0)) := (Blk2.at_ _ _ _ (by simp)).keep hb (by simp <;> omega)
    have B : Hid (Below w.heap.size w w1) := Below.trans (by repeat (first | exact Below.refl _ _ | refine Below.alloc ?_ (by simp <;> omega) _)) (hb.mono (by simp <;> omega))
    obtain ⟨K0a1, K0b1, K0c1, K0d1⟩ := K0.out.all
    obtain ⟨K1a1, K1b1, K1c1, K1d1⟩ := K1.out.all
    obtain ⟨K2a1, K2b1, K2c1, K2d1⟩ := K2.out.all
    clear hb
    rw [ha]
    go_wp2_with fail
    obtain ⟨E0, E1, -, -⟩ := ((K2.out.set0 (.int .i64 0)).set1 (.int .i64 0)).all
    refine bodyPost_ret (v := ratV (0, 0)) (by simp [results, Try.results62, go_sem, E0, E1, ratV]) rfl ⟨by rw [L.out], ?_⟩
    exact (B.out.setCell (by show w.heap.size ≤ w.heap.size + 1 + 1; omega) _).setCell (by show w.heap.size ≤ w.heap.size + 1 + 1; omega) _

set_option maxHeartbeats 800000 in
theorem sMul (a b c d : Int) (w : World) : Calls Try.prog 63 #[.agg #[.int .i64 a, .int .i64 b], .agg #[.int .i64 c, .int .i64 d]] w (Gives (ratV (mulR a b c d)) w) := by
  rcases Bool.eq_false_or_eq_true (isRat a b) with ha | ha
  · rcases Bool.eq_false_or_eq_true (isRat c d) with hc | hc
    · have L : Hid (mulR a b c d = low (a * c) (b * d)) := by show mulR a b c d = _; unfold mulR; rw [ha, hc]; rfl
      have pa := isRat_in (of_decide_eq_true ha)
      have pc := isRat_in (of_decide_eq_true hc)
      obtain ⟨m1, m2⟩ := mul_sm a d pa.1 pc.2
      obtain ⟨m3, m4⟩ := mul_sm c b pc.1 pa.2
      obtain ⟨m5, m6⟩ := mul_sm b d pa.2 pc.2
      obtain ⟨m7, m8⟩ := mul_sm a c pa.1 pc.1
      obtain ⟨m9, m10⟩ := mul_sm b c pa.2 pc.1
      go_enter Try.func63, Try.ntmps63
      go_wp2_with fail
      refine (sIsRat a b _).mono ?_
      rintro e w1 ⟨rfl, hb⟩
      have K0 : Hid (Blk2 w1 w.heap.size 80 (.int .i64 a) (.int .i64 b)) := (((Blk2.at_ _ _ _ rfl).old _).old _).keep hb (by simp <;> omega)
      have K1 : Hid (Blk2 w1 (w.heap.size + 1) 80 (.int .i64 c) (.int .i64 d)) := ((Blk2.at_ _ _ _ (by simp)).old _).keep hb (by simp <;> omega)
      have K2 : Hid (Blk2 w1 (w.heap.size + 1 + 1) 80 (.int .i64 0) (.int .i64 0)) := (Blk2.at_ _ _ _ (by simp)).keep hb (by simp <;> omega)
      have B : Hid (Below w.heap.size w w1) := Below.trans (by repeat (first | exact Below.refl _ _ | refine Below.alloc ?_ (by simp <;> omega) _)) (hb.mono (by simp <;> omega))
      obtain ⟨K0a1, K0b1, K0c1, K0d1⟩ := K0.out.all
      obtain ⟨K1a1, K1b1, K1c1, K1d1⟩ := K1.out.all
      obtain ⟨K2a1, K2b1, K2c1, K2d1⟩ := K2.out.all
      clear hb
      rw [ha]
      go_wp2_with fail
      refine (sIsRat c d _).mono ?_
      rintro e w2 ⟨rfl, hb⟩
      have K0 : Hid (Blk2 w2 w.heap.size 80 (.int .i64 a) (.int .i64 b)) := K0.out.keep hb K0.out.lt
      have K1 : Hid (Blk2 w2 (w.heap.size + 1) 80 (.int .i64 c) (.int .i64 d)) := K1.out.keep hb K1.out.lt
      have K2 : Hid (Blk2 w2 (w.heap.size + 1 + 1) 80 (.int .i64 0) (.int .i64 0)) := K2.out.keep hb K2.out.lt
      have B := Lib.hid (B.out.trans (hb.mono B.out.size))
      obtain ⟨K0a2, K0b2, K0c2, K0d2⟩ := K0.out.all
      obtain ⟨K1a2, K1b2, K1c2, K1d2⟩ := K1.out.all
      obtain ⟨K2a2, K2b2, K2c2, K2d2⟩ := K2.out.all
      clear hb
      rw [hc]
      go_wp2_with fail
      refine (sMake (a * c) (b * d) _ (by omega) (by omega)).mono ?_
      rintro e w3 ⟨rfl, hb⟩
      have K2 : Hid (Blk2 w3 (w.heap.size + 1 + 1) 80 (.int .i64 0) (.int .i64 0)) := K2.out.keep hb K2.out.lt
      have B := Lib.hid (B.out.trans (hb.mono B.out.size))
      obtain ⟨K2a3, K2b3, K2c3, K2d3⟩ := K2.out.all
      clear hb
      unfold ratV
      go_wp2_with fail
      obtain ⟨E0, E1, -, -⟩ := ((K2.out.set0 (.int .i64 (low (a * c) (b * d)).1)).set1 (.int .i64 (low (a * c) (b * d)).2)).all
      refine bodyPost_ret (v := ratV (low (a * c) (b * d))) (by simp [results, Try.results63, go_sem, E0, E1, ratV]) rfl ⟨by rw [L.out], ?_⟩
      exact (B.out.setCell (by show w.heap.size ≤ w.heap.size + 1 + 1; omega) _).setCell (by show w.heap.size ≤ w.heap.size + 1 + 1; omega) _
    · have L : Hid (mulR a b c d = (0, 0)) := by show mulR a b c d = _; unfold mulR; rw [ha, hc]; rfl
      go_enter Try.func63, Try.ntmps63
      go_wp2_with fail
      refine (sIsRat a b _).mono ?_
      rintro e w1 ⟨rfl, hb⟩
      have K0 : Hid (Blk2 w1 w.heap.size 80 (.int .i64 a) (.int .i64 b)) := (((Blk2.at_ _ _ _ rfl).old _).old _).keep hb (by simp <;> omega)
      have K1 : Hid (Blk2 w1 (w.heap.size + 1) 80 (.int .i64 c) (.int .i64 d)) := ((Blk2.at_ _ _ _ (by simp)).old _).keep hb (by simp <;> omega)
      have K2 : Hid (Blk2 w1 (w.heap.size + 1 + 1) 80 (.int .i64 0) (.int .i64 0)) := (Blk2.at_ _ _ _ (by simp)).keep hb (by simp <;> omega)
      have B : Hid (Below w.heap.size w w1) := Below.trans (by repeat (first | exact Below.refl _ _ | refine Below.alloc ?_ (by simp <;> omega) _)) (hb.mono (by simp <;> omega))
      obtain ⟨K0a1, K0b1, K0c1, K0d1⟩ := K0.out.all
      obtain ⟨K1a1, K1b1, K1c1, K1d1⟩ := K1.out.all
      obtain ⟨K2a1, K2b1, K2c1, K2d1⟩ := K2.out.all
      clear hb
      rw [ha]
      go_wp2_with fail
      refine (sIsRat c d _).mono ?_
      rintro e w2 ⟨rfl, hb⟩
      have K0 : Hid (Blk2 w2 w.heap.size 80 (.int .i64 a) (.int .i64 b)) := K0.out.keep hb K0.out.lt
      have K1 : Hid (Blk2 w2 (w.heap.size + 1) 80 (.int .i64 c) (.int .i64 d)) := K1.out.keep hb K1.out.lt
      have K2 : Hid (Blk2 w2 (w.heap.size + 1 + 1) 80 (.int .i64 0) (.int .i64 0)) := K2.out.keep hb K2.out.lt
      have B := Lib.hid (B.out.trans (hb.mono B.out.size))
      obtain ⟨K0a2, K0b2, K0c2, K0d2⟩ := K0.out.all
      obtain ⟨K1a2, K1b2, K1c2, K1d2⟩ := K1.out.all
      obtain ⟨K2a2, K2b2, K2c2, K2d2⟩ := K2.out.all
      clear hb
      rw [hc]
      go_wp2_with fail
      obtain ⟨E0, E1, -, -⟩ := ((K2.out.set0 (.int .i64 0)).set1 (.int .i64 0)).all
      refine bodyPost_ret (v := ratV (0, 0)) (by simp [results, Try.results63, go_sem, E0, E1, ratV]) rfl ⟨by rw [L.out], ?_⟩
      exact (B.out.setCell (by show w.heap.size ≤ w.heap.size + 1 + 1; omega) _).setCell (by show w.heap.size ≤ w.heap.size + 1 + 1; omega) _
  · have L : Hid (mulR a b c d = (0, 0)) := by show mulR a b c d = _; unfold mulR; rw [ha]; rfl
    go_enter Try.func63, Try.ntmps63
    go_wp2_with fail
    refine (sIsRat a b _).mono ?_
    rintro e w1 ⟨rfl, hb⟩
    have K0 : Hid (Blk2 w1 w.heap.size 80 (.int .i64 a) (.int .i64 b)) := (((Blk2.at_ _ _ _ rfl).old _).old _).keep hb (by simp <;> omega)
    have K1 : Hid (Blk2 w1 (w.heap.size + 1) 80 (.int .i64 c) (.int .i64 d)) := ((Blk2.at_ _ _ _ (by simp)).old _).keep hb (by simp <;> omega)
    have K2 : Hid (Blk2 w1 (w.heap.size + 1 + 1) 80 (.int .i64 0) (.int .i64 0)) := (Blk2.at_ _ _ _ (by simp)).keep hb (by simp <;> omega)
    have B : Hid (Below w.heap.size w w1) := Below.trans (by repeat (first | exact Below.refl _ _ | refine Below.alloc ?_ (by simp <;> omega) _)) (hb.mono (by simp <;> omega))
    obtain ⟨K0a1, K0b1, K0c1, K0d1⟩ := K0.out.all
    obtain ⟨K1a1, K1b1, K1c1, K1d1⟩ := K1.out.all
    obtain ⟨K2a1, K2b1, K2c1, K2d1⟩ := K2.out.all
    clear hb
    rw [ha]
    go_wp2_with fail
    obtain ⟨E0, E1, -, -⟩ := ((K2.out.set0 (.int .i64 0)).set1 (.int .i64 0)).all
    refine bodyPost_ret (v := ratV (0, 0)) (by simp [results, Try.results63, go_sem, E0, E1, ratV]) rfl ⟨by rw [L.out], ?_⟩
    exact (B.out.setCell (by show w.heap.size ≤ w.heap.size + 1 + 1; omega) _).setCell (by show w.heap.size ≤ w.heap.size + 1 + 1; omega) _

end Go.Proofs.Ytcapddcmnjeloaa
end

section
/-
  Chapter 11, in the model: IsRational.
-/
namespace Go.Proofs.Ytcapddcmnjeloaa
set_option maxRecDepth 100000
open Go.RowKit

/-- The cells that one product reads, in every later world. -/
theorem ratF {W w' : World} {b g : Nat} {t t2 : TypeId} {p q r s1 s2 v z1 z2 : Value} {x y1 y2 : Addr} (h0 : Blk3 W b t p q r) (h1 : Blk2 W g t2 s1 s2) (hx : W.cell? x = some v) (hz1 : W.cell? y1 = some z1) (hz2 : W.cell? y2 = some z2) (hb : Below W.heap.size W w') :
    w'.cell? ⟨b, 0, none⟩ = some p ∧ w'.cell? ⟨b, 1, none⟩ = some q ∧ w'.cell? ⟨b, 2, none⟩ = some r ∧ w'.cell? ⟨g, 0, none⟩ = some s1 ∧ w'.cell? ⟨g, 1, none⟩ = some s2 ∧ w'.cell? x = some v ∧ w'.cell? y1 = some z1 ∧ w'.cell? y2 = some z2 := by
  obtain ⟨a1, a2, a3, -, -, -⟩ := (h0.step hb).all
  obtain ⟨b1, b2, -, -⟩ := (h1.keep hb h1.lt).all
  have far : ∀ {a : Addr} {u : Value}, W.cell? a = some u → w'.cell? a = some u := fun {a u} h => (hb.cell (World.block_lt_of_cell? W a h)).trans h
  exact ⟨a1, a2, a3, b1, b2, far hx, far hz1, far hz2⟩
set_option maxHeartbeats 4000000 in
theorem sRational (r c : Int) (a : Option Addr) (m : Nat) (xs : List Int) (ab : Option Addr) (mb : Nat) (bs : List Int) (az : Option Addr) (mz : Nat) (zs : List (Int × Int)) (w : World) (h : Rd w a xs) (hn : xs.length ≤ 16777216) (hb : Rd w ab bs) (hbn : bs.length ≤ 16777216) (hz : RdQ w az zs) (hzn : zs.length ≤ 16777216) :
    Calls Try.prog 28 #[.agg #[.int .i64 r, .int .i64 c, .slice a xs.length m], .slice ab bs.length mb, .slice az zs.length mz] w (Gives (.bool (irB r c xs bs zs)) w) := by
  have IM : Hid (∀ w', Below w.heap.size w w' → Calls Try.prog 61 #[.agg #[.int .i64 r, .int .i64 c, .slice a xs.length m]] w' (Gives (.bool (isMat r c xs)) w')) := fun w' hb => sIsMat r c a m xs w' (h.below hb) hn
  have K0 : Hid (Blk3 (w.alloc (.cells #[.int .i64 r, .int .i64 c, .slice a xs.length m] 26)) w.heap.size 26 (.int .i64 r) (.int .i64 c) (.slice a xs.length m)) := Blk3.at_ _ _ _ _ rfl
  have B0 : Hid (Below w.heap.size w (w.alloc (.cells #[.int .i64 r, .int .i64 c, .slice a xs.length m] 26))) := (Below.refl _ _).alloc (Nat.le_refl _) _
  rcases Bool.eq_false_or_eq_true (isMat r c xs) with hm | hm
  rotate_left
  · have V : Hid (irB r c xs bs zs = false) := irB_false (.inl hm)
    go_enter Try.func28, Try.ntmps28
    go_wp2_with fail
    refine (IM.out _ B0.out).mono ?_
    rintro e w1 ⟨rfl, hb1⟩
    rw [hm]
    have B1 := Lib.hid (B0.out.trans (hb1.mono B0.out.size))
    clear hb1
    go_wp2_with fail
    go_ret
    exact ⟨by rw [V.out]; rfl, B1.out⟩
  obtain ⟨⟨r0, r1⟩, ⟨c0, c1⟩, hl, hnx⟩ := isMat_says hm
  obtain ⟨R, rfl⟩ := Int.eq_ofNat_of_zero_le r0
  obtain ⟨C, rfl⟩ := Int.eq_ofNat_of_zero_le c0
  have hl : xs.length = R * C := by rw [← Int.natCast_mul] at hl; omega
  have R24 : R ≤ 24 := by omega
  have C24 : C ≤ 24 := by omega
  have V1 : Hid ((bs.length : Int) ≠ R → irB R C xs bs zs = false) := fun h => irB_false (.inr (.inl h))
  have V2 : Hid ((zs.length : Int) ≠ C → irB R C xs bs zs = false) := fun h => irB_false (.inr (.inr h))
  have VR : Hid (∀ i, i < R → rowB C xs bs zs i = false → irB R C xs bs zs = false) := fun i hi h => irB_row hi h
  have VT : Hid (bs.length = R → zs.length = C → (∀ i, i < R → rowB C xs bs zs i = true) → irB R C xs bs zs = true) := fun h1 h2 h3 => irB_true hm h1 h2 h3
  have RX : Hid (Rd w a xs) := h
  have RB : Hid (Rd w ab bs) := hb
  have RZ : Hid (RdQ w az zs) := hz
  have IY : Hid (∀ i j, i < R → j < C → i * C + j < xs.length ∧ IntKind.i64.wrap ((i : Int) * (C : Int)) = (i : Int) * (C : Int) ∧ IntKind.i64.wrap ((i : Int) * (C : Int) + (j : Int)) = ((i * C + j : Nat) : Int)) := fun i j hi hj => by
    have h1 : i * C + j < R * C := idx_lt hi hj
    have h2 : R * C ≤ 24 * 24 := Nat.mul_le_mul R24 C24
    have c1 : (i : Int) * (C : Int) = ((i * C : Nat) : Int) := (Int.natCast_mul _ _).symm
    refine ⟨by omega, IntWalk.i64_in _ (by rw [c1]; omega), ?_⟩
    rw [show (i : Int) * (C : Int) + (j : Int) = ((i * C + j : Nat) : Int) by rw [c1]; omega]
    exact IntWalk.i64_in _ (by omega)
  generalize irB R C xs bs zs = bb at V1 V2 VR VT ⊢
  obtain ⟨L, hL⟩ : ∃ L, xs.length = L := ⟨_, rfl⟩
  rw [hL] at IM K0 B0 IY hn hl ⊢
  obtain ⟨Lb, hLb⟩ : ∃ Lb, bs.length = Lb := ⟨_, rfl⟩
  obtain ⟨Lz, hLz⟩ : ∃ Lz, zs.length = Lz := ⟨_, rfl⟩
  rw [hLb] at V1 VT hbn ⊢
  rw [hLz] at V2 VT hzn ⊢
  have XB := Lib.hid hLb
  have XN := Lib.hid hL
  have XZ := Lib.hid hLz
  clear h hb hz hLb hLz hL hl hnx
  go_enter Try.func28, Try.ntmps28
  go_wp2_with fail
  refine (IM.out _ B0.out).mono ?_
  rintro e w1 ⟨rfl, hb1⟩
  rw [hm]
  have B1 := Lib.hid (B0.out.trans (hb1.mono B0.out.size))
  have K1 := Lib.hid (K0.out.step hb1)
  clear hb1 hm IM
  obtain ⟨p0, p1, p2, -, -, -⟩ := K1.out.all
  by_cases h1 : (Lb : Int) = R
  rotate_left
  · have V := Lib.hid (V1.out h1)
    have n1 : ((Lb : Int) != (R : Int)) = true := by simpa using h1
    go_wp2_with fail
    go_ret
    exact ⟨by rw [V.out]; rfl, B1.out⟩
  have n1 : ((Lb : Int) != (R : Int)) = false := by simp; omega
  by_cases h2 : (Lz : Int) = C
  rotate_left
  · have V := Lib.hid (V2.out h2)
    have n2 : ((Lz : Int) != (C : Int)) = true := by simpa using h2
    go_wp2_with fail
    go_ret
    exact ⟨by rw [V.out]; rfl, B1.out⟩
  have n2 : ((Lz : Int) != (C : Int)) = false := by simp; omega
  have h1 : Lb = R := by omega
  have h2 : Lz = C := by omega
  subst h1 h2
  go_wp2_with fail
  go_loopw [7] (fun v7 wr => ∃ i : Nat, v7 = .int .i64 i ∧ i ≤ Lb ∧ (∀ k, k < i → rowB Lz xs bs zs k = true) ∧ Blk3 wr w.heap.size 26 (.int .i64 Lb) (.int .i64 Lz) (.slice a L m) ∧ Below w.heap.size w wr) (fun v7 _ => Lb - (intOf v7).toNat)
  case atStart => exact ⟨0, rfl, by omega, fun k hk => by omega, K1.out, B1.out⟩
  case round =>
    obtain ⟨i, rfl, hi, hk, hK, hB⟩ := hrel
    have HK := Lib.hid hk
    have KO := Lib.hid hK
    have BO := Lib.hid hB
    clear hk hK hB K1 B1 p0 p1 p2
    obtain ⟨p0, p1, p2, -, -, -⟩ := KO.out.all
    by_cases hlt : i < Lb
    · have KM := Lib.hid (KO.out.old (.cells #[.int .i64 0, .int .i64 1] 80))
      have KS : Hid (Blk2 (wr.alloc (.cells #[.int .i64 0, .int .i64 1] 80)) wr.heap.size 80 (.int .i64 0) (.int .i64 1)) := Blk2.at_ _ _ _ rfl
      have BM := Lib.hid (BO.out.alloc BO.out.size (.cells #[.int .i64 0, .int .i64 1] 80))
      have s0 := BO.out.size
      have sK := KO.out.lt
      obtain ⟨g, hg⟩ : ∃ g, wr.heap.size = g := ⟨_, rfl⟩
      go_wp2_with fail
      rw [hg] at KS s0 sK
      generalize wr.alloc (.cells #[.int .i64 0, .int .i64 1] 80) = W at KM KS BM ⊢
      clear KO BO p0 p1 p2 hg
      go_loopw [9] (fun v9 wi => ∃ j : Nat, v9 = .int .i64 j ∧ j ≤ Lz ∧ Blk3 wi w.heap.size 26 (.int .i64 Lb) (.int .i64 Lz) (.slice a L m) ∧ Blk2 wi g 80 (.int .i64 (sumR (mxC Lz xs i) (atR zs) j).1) (.int .i64 (sumR (mxC Lz xs i) (atR zs) j).2) ∧ Below w.heap.size w wi) (fun v9 _ => Lz - (intOf v9).toNat)
      case atStart => exact ⟨0, rfl, by omega, KM.out, KS.out, BM.out⟩
      case round =>
        clear KM KS BM
        obtain ⟨j, rfl, hj, hK, hS8, hB⟩ := hrel
        have K0 := Lib.hid hK
        have K8 := Lib.hid hS8
        have BI := Lib.hid hB
        clear hK hS8 hB
        obtain ⟨p0, p1, p2, -, -, -⟩ := K0.out.all
        by_cases hjl : j < Lz
        · obtain ⟨x1, x2, x3⟩ := IY.out i j hlt hjl
          have XL := Lib.hid x1
          obtain ⟨b1, o1, rfl, hc1⟩ := (RX.out.below BI.out) (i * Lz + j) (by rw [XN.out]; exact x1)
          obtain ⟨b2, o2, rfl, -, hc2, hc3⟩ := (RZ.out.below BI.out) j (by rw [XZ.out]; exact hjl)
          have SS := Lib.hid (sumR_succ (mxC Lz xs i) (atR zs) j)
          have XE : Hid (mxC Lz xs i j = xs.getD (i * Lz + j) 0) := rfl
          have ZE : Hid (atR zs j = zs.getD j (0, 0)) := rfl
          obtain ⟨u, hu⟩ : ∃ u, xs.getD (i * Lz + j) 0 = u := ⟨_, rfl⟩
          obtain ⟨zn, hzn⟩ : ∃ z, (zs.getD j (0, 0)).1 = z := ⟨_, rfl⟩
          obtain ⟨zd, hzd⟩ : ∃ z, (zs.getD j (0, 0)).2 = z := ⟨_, rfl⟩
          have SS : Hid (sumR (mxC Lz xs i) (atR zs) (j + 1) = addR (sumR (mxC Lz xs i) (atR zs) j).1 (sumR (mxC Lz xs i) (atR zs) j).2 (mulR u 1 zn zd).1 (mulR u 1 zn zd).2) := by
            refine Lib.hid ?_
            rw [SS.out, XE.out, ZE.out, hu, hzn, hzd]
          have P0 : (0 : Int) ≤ ((i * Lz + j : Nat) : Int) := by omega
          have P1 : ((i * Lz + j : Nat) : Int) < (L : Int) := by omega
          obtain ⟨P, hP⟩ : ∃ P, i * Lz + j = P := ⟨_, rfl⟩
          rw [hu] at hc1
          rw [hzn] at hc2
          rw [hzd] at hc3
          rw [hP] at hc1 P0 P1 x3
          have X1 := Lib.hid hc1
          have Z1 := Lib.hid hc2
          have Z2 := Lib.hid hc3
          obtain ⟨ps, hps⟩ : ∃ p, (sumR (mxC Lz xs i) (atR zs) j).1 = p := ⟨_, rfl⟩
          obtain ⟨qs, hqs⟩ : ∃ p, (sumR (mxC Lz xs i) (atR zs) j).2 = p := ⟨_, rfl⟩
          rw [hps, hqs] at SS K8
          obtain ⟨sn, hsn⟩ : ∃ p, (mulR u 1 zn zd).1 = p := ⟨_, rfl⟩
          obtain ⟨sd, hsd⟩ : ∃ p, (mulR u 1 zn zd).2 = p := ⟨_, rfl⟩
          rw [hsn, hsd] at SS
          have MU : Hid (∀ w', Calls Try.prog 63 #[.agg #[.int .i64 u, .int .i64 1], .agg #[.int .i64 zn, .int .i64 zd]] w' (Gives (.agg #[.int .i64 sn, .int .i64 sd]) w')) := fun w' => by rw [← hsn, ← hsd]; exact sMul u 1 zn zd w'
          have AD : Hid (∀ w', Calls Try.prog 62 #[.agg #[.int .i64 ps, .int .i64 qs], .agg #[.int .i64 sn, .int .i64 sd]] w' (Gives (.agg #[.int .i64 (addR ps qs sn sd).1, .int .i64 (addR ps qs sn sd).2]) w')) := fun w' => sAdd ps qs sn sd w'
          clear hc1 hc2 hc3 hu hzn hzd hP hps hqs hsn hsd x1 p0 p1 p2
          obtain ⟨q0, q1, q2, -, -, -⟩ := K0.out.all
          go_wp2_with fail
          refine wp_region_T (S := fun w' => Below wr.heap.size wr w') (T := fun j => j == 18) (by kernel_rfl) (Below.refl _ _).drew (fun hH => ?_)
          refine wpAnyT_take (i := 0) (v := ?_) (by simp only [List.getElem?_toArray, List.getElem?_cons_zero]; rfl) (by kernel_rfl) (by kernel_rfl) (by kernel_rfl) (by kernel_rfl) (one_only 18 (by kernel_rfl)) (by exact fun _ _ _ h => h) (Or.inl ⟨by rfl, ?_⟩) hH ?_
          rotate_left
          · (intro wS hS; (try dsimp only at hS); obtain ⟨k1, k2, k3, k4, k5, k6, k7, k8⟩ := ratF K0.out K8.out X1.out Z1.out Z2.out hS; go_simp; try rfl)
          try simp only [Act.put, List.setIfInBounds_toArray, List.set_cons_zero, List.set_cons_succ]
          refine wpAnyT_take (i := 1) (v := ?_) (by simp only [List.getElem?_toArray, List.getElem?_cons_succ, List.getElem?_cons_zero]; rfl) (by kernel_rfl) (by kernel_rfl) (by kernel_rfl) (by kernel_rfl) (one_only 18 (by kernel_rfl)) (by exact fun _ _ _ h => h) (Or.inl ⟨by rfl, ?_⟩) hH ?_
          rotate_left
          · (intro wS hS; clear hS; go_simp; try rfl)
          try simp only [Act.put, List.setIfInBounds_toArray, List.set_cons_zero, List.set_cons_succ]
          refine wpAnyT_take (i := 2) (v := ?_) (by simp only [List.getElem?_toArray, List.getElem?_cons_succ, List.getElem?_cons_zero]; rfl) (by kernel_rfl) (by kernel_rfl) (by kernel_rfl) (by kernel_rfl) (one_only 18 (by kernel_rfl)) (by exact fun _ _ _ h => h) (Or.inl ⟨by rfl, ?_⟩) hH ?_
          rotate_left
          · (intro wS hS; (try dsimp only at hS); obtain ⟨k1, k2, k3, k4, k5, k6, k7, k8⟩ := ratF K0.out K8.out X1.out Z1.out Z2.out hS; go_simp; try rfl)
          try simp only [Act.put, List.setIfInBounds_toArray, List.set_cons_zero, List.set_cons_succ]
          refine wpAnyT_take (i := 3) (v := ?_) (by simp only [List.getElem?_toArray, List.getElem?_cons_succ, List.getElem?_cons_zero]; rfl) (by kernel_rfl) (by kernel_rfl) (by kernel_rfl) (by kernel_rfl) (one_only 18 (by kernel_rfl)) (by exact fun _ _ _ h => h) (Or.inl ⟨by rfl, ?_⟩) hH ?_
          rotate_left
          · (intro wS hS; clear hS; go_simp; try rfl)
          try simp only [Act.put, List.setIfInBounds_toArray, List.set_cons_zero, List.set_cons_succ]
          refine wpAnyT_take (i := 4) (v := ?_) (by simp only [List.getElem?_toArray, List.getElem?_cons_succ, List.getElem?_cons_zero]; rfl) (by kernel_rfl) (by kernel_rfl) (by kernel_rfl) (by kernel_rfl) (one_only 18 (by kernel_rfl)) (by exact fun _ _ _ h => h) (Or.inl ⟨by rfl, ?_⟩) hH ?_
          rotate_left
          · (intro wS hS; clear hS; go_simp; try rfl)
          try simp only [Act.put, List.setIfInBounds_toArray, List.set_cons_zero, List.set_cons_succ]
          refine wpAnyT_take (i := 5) (v := ?_) (by simp only [List.getElem?_toArray, List.getElem?_cons_succ, List.getElem?_cons_zero]; rfl) (by kernel_rfl) (by kernel_rfl) (by kernel_rfl) (by kernel_rfl) (one_only 18 (by kernel_rfl)) (by exact fun _ _ _ h => h) (Or.inl ⟨by rfl, ?_⟩) hH ?_
          rotate_left
          · (intro wS hS; (try dsimp only at hS); obtain ⟨k1, k2, k3, k4, k5, k6, k7, k8⟩ := ratF K0.out K8.out X1.out Z1.out Z2.out hS; go_simp; try rfl)
          try simp only [Act.put, List.setIfInBounds_toArray, List.set_cons_zero, List.set_cons_succ]
          refine wpAnyT_take (i := 6) (v := ?_) (by simp only [List.getElem?_toArray, List.getElem?_cons_succ, List.getElem?_cons_zero]; rfl) (by kernel_rfl) (by kernel_rfl) (by kernel_rfl) (by kernel_rfl) (one_only 18 (by kernel_rfl)) (by exact fun _ _ _ h => h) (Or.inl ⟨by rfl, ?_⟩) hH ?_
          rotate_left
          · (intro wS hS; clear hS; go_simp; try rfl)
          try simp only [Act.put, List.setIfInBounds_toArray, List.set_cons_zero, List.set_cons_succ]
          refine wpAnyT_take (i := 7) (v := ?_) (by simp only [List.getElem?_toArray, List.getElem?_cons_succ, List.getElem?_cons_zero]; rfl) (by kernel_rfl) (by kernel_rfl) (by kernel_rfl) (by kernel_rfl) (one_only 18 (by kernel_rfl)) (by exact fun _ _ _ h => h) (Or.inl ⟨by rfl, ?_⟩) hH ?_
          rotate_left
          · (intro wS hS; clear hS; go_simp; try rfl)
          try simp only [Act.put, List.setIfInBounds_toArray, List.set_cons_zero, List.set_cons_succ]
          refine wpAnyT_take (i := 8) (v := ?_) (by simp only [List.getElem?_toArray, List.getElem?_cons_succ, List.getElem?_cons_zero]; rfl) (by kernel_rfl) (by kernel_rfl) (by kernel_rfl) (by kernel_rfl) (one_only 18 (by kernel_rfl)) (by exact fun _ _ _ h => h) (Or.inl ⟨by rfl, ?_⟩) hH ?_
          rotate_left
          · (intro wS hS; clear hS; go_simp; try rfl)
          try simp only [Act.put, List.setIfInBounds_toArray, List.set_cons_zero, List.set_cons_succ]
          refine wpAnyT_take (i := 9) (v := ?_) (by simp only [List.getElem?_toArray, List.getElem?_cons_succ, List.getElem?_cons_zero]; rfl) (by kernel_rfl) (by kernel_rfl) (by kernel_rfl) (by kernel_rfl) (one_only 18 (by kernel_rfl)) (by exact fun _ _ _ h => h) (Or.inl ⟨by rfl, ?_⟩) hH ?_
          rotate_left
          · (intro wS hS; clear hS; go_simp; try rfl)
          try simp only [Act.put, List.setIfInBounds_toArray, List.set_cons_zero, List.set_cons_succ]
          refine wpAnyT_take (i := 10) (v := ?_) (by simp only [List.getElem?_toArray, List.getElem?_cons_succ, List.getElem?_cons_zero]; rfl) (by kernel_rfl) (by kernel_rfl) (by kernel_rfl) (by kernel_rfl) (one_only 18 (by kernel_rfl)) (by exact fun _ _ _ h => h) (Or.inl ⟨by rfl, ?_⟩) hH ?_
          rotate_left
          · (intro wS hS; (try dsimp only at hS); obtain ⟨k1, k2, k3, k4, k5, k6, k7, k8⟩ := ratF K0.out K8.out X1.out Z1.out Z2.out hS; go_simp; try rfl)
          try simp only [Act.put, List.setIfInBounds_toArray, List.set_cons_zero, List.set_cons_succ]
          refine wpAnyT_take (i := 11) (v := ?_) (by simp only [List.getElem?_toArray, List.getElem?_cons_succ, List.getElem?_cons_zero]; rfl) (by kernel_rfl) (by kernel_rfl) (by kernel_rfl) (by kernel_rfl) (one_only 18 (by kernel_rfl)) (by exact fun _ _ _ h => h) (Or.inl ⟨by rfl, ?_⟩) hH ?_
          rotate_left
          · (intro wS hS; clear hS; go_simp; try rfl)
          try simp only [Act.put, List.setIfInBounds_toArray, List.set_cons_zero, List.set_cons_succ]
          refine wpAnyT_take (i := 12) (v := ?_) (by simp only [List.getElem?_toArray, List.getElem?_cons_succ, List.getElem?_cons_zero]; rfl) (by kernel_rfl) (by kernel_rfl) (by kernel_rfl) (by kernel_rfl) (one_only 18 (by kernel_rfl)) (by exact fun _ _ _ h => h) (Or.inl ⟨by rfl, ?_⟩) hH ?_
          rotate_left
          · (intro wS hS; clear hS; go_simp; try rfl)
          try simp only [Act.put, List.setIfInBounds_toArray, List.set_cons_zero, List.set_cons_succ]
          refine wpAnyT_take (i := 13) (v := ?_) (by simp only [List.getElem?_toArray, List.getElem?_cons_succ, List.getElem?_cons_zero]; rfl) (by kernel_rfl) (by kernel_rfl) (by kernel_rfl) (by kernel_rfl) (one_only 18 (by kernel_rfl)) (by exact fun _ _ _ h => h) (Or.inl ⟨by rfl, ?_⟩) hH ?_
          rotate_left
          · (intro wS hS; clear hS; go_simp; try rfl)
          try simp only [Act.put, List.setIfInBounds_toArray, List.set_cons_zero, List.set_cons_succ]
          refine wpAnyT_take (i := 14) (v := ?_) (by simp only [List.getElem?_toArray, List.getElem?_cons_succ, List.getElem?_cons_zero]; rfl) (by kernel_rfl) (by kernel_rfl) (by kernel_rfl) (by kernel_rfl) (one_only 18 (by kernel_rfl)) (by exact fun _ _ _ h => h) (Or.inl ⟨by rfl, ?_⟩) hH ?_
          rotate_left
          · (intro wS hS; clear hS; go_simp; try rfl)
          try simp only [Act.put, List.setIfInBounds_toArray, List.set_cons_zero, List.set_cons_succ]
          refine wpAnyT_take (i := 15) (v := ?_) (by simp only [List.getElem?_toArray, List.getElem?_cons_succ, List.getElem?_cons_zero]; rfl) (by kernel_rfl) (by kernel_rfl) (by kernel_rfl) (by kernel_rfl) (one_only 18 (by kernel_rfl)) (by exact fun _ _ _ h => h) (Or.inl ⟨by rfl, ?_⟩) hH ?_
          rotate_left
          · (intro wS hS; (try dsimp only at hS); obtain ⟨k1, k2, k3, k4, k5, k6, k7, k8⟩ := ratF K0.out K8.out X1.out Z1.out Z2.out hS; go_simp; try rfl)
          try simp only [Act.put, List.setIfInBounds_toArray, List.set_cons_zero, List.set_cons_succ]
          refine wpAnyT_ready (rs := [16]) (by kernel_rfl) (by simp) ?_
          refine AllReadyT.cons (by simp only [List.getElem?_toArray, List.getElem?_cons_succ, List.getElem?_cons_zero]; rfl) (fun K hK => ?_) AllReadyT.nil
          go_simp
          (with_reducible refine (MU.out _).mono ?_)
          rintro e v1 ⟨rfl, hb1⟩
          try dsimp only
          refine hK.out _ _ (fun _ => hH.trans (hb1.mono hH.size)) ?_
          clear hK K
          have hH := hH.trans (hb1.mono hH.size)
          try simp only [Act.put, List.setIfInBounds_toArray, List.set_cons_zero, List.set_cons_succ]
          refine wpAnyT_ready (rs := [17]) (by kernel_rfl) (by simp) ?_
          refine AllReadyT.cons (by simp only [List.getElem?_toArray, List.getElem?_cons_succ, List.getElem?_cons_zero]; rfl) (fun K hK => ?_) AllReadyT.nil
          go_simp
          (with_reducible refine (AD.out _).mono ?_)
          rintro e v2 ⟨rfl, hb2⟩
          try dsimp only
          refine hK.out _ _ (fun _ => hH.trans (hb2.mono hH.size)) ?_
          clear hK K
          have hH := hH.trans (hb2.mono hH.size)
          try simp only [Act.put, List.setIfInBounds_toArray, List.set_cons_zero, List.set_cons_succ]
          refine wpAnyT_ready (rs := [18]) (by kernel_rfl) (by simp) ?_
          refine AllReadyT.cons (by simp only [List.getElem?_toArray, List.getElem?_cons_succ, List.getElem?_cons_zero]; rfl) (fun K hK => ?_) AllReadyT.nil
          have K8 := Lib.hid (K8.out.keep hH K8.out.lt)
          obtain ⟨c80, c81, f80, f81⟩ := K8.out.all
          go_simp
          try dsimp only
          refine hK.out _ _ (fun h => by cases h) ?_
          clear hK K
          try simp only [Act.put, List.setIfInBounds_toArray, List.set_cons_zero, List.set_cons_succ]
          refine wpAnyT_done (by kernel_rfl) ?_ _
          go_wp2_with fail
          go_roundw
          case rel =>
            refine ⟨j + 1, by go_num, by omega, ((K0.out.step hH).far (by show w.heap.size ≠ g; omega) _).far (by show w.heap.size ≠ g; omega) _, ?_, ?_⟩
            · rw [SS.out]
              exact (K8.out.set0 _).set1 _
            · exact ((BI.out.trans (hH.mono BI.out.size)).setCell (by show w.heap.size ≤ g; omega) _).setCell (by show w.heap.size ≤ g; omega) _
          case measure => simp [intOf]; omega
        · obtain rfl : j = Lz := by omega
          have RF : Hid (sumR (mxC j xs i) (atR zs) j ≠ (bs.getD i 0, 1) → rowB j xs bs zs i = false) := fun h => decide_eq_false h
          have RT : Hid (sumR (mxC j xs i) (atR zs) j = (bs.getD i 0, 1) → rowB j xs bs zs i = true) := fun h => decide_eq_true h
          obtain ⟨b3, o3, rfl, hc4⟩ := (RB.out.below BI.out) i (by rw [XB.out]; exact hlt)
          obtain ⟨x, hx⟩ : ∃ x, bs.getD i 0 = x := ⟨_, rfl⟩
          rw [hx] at hc4 RF RT
          obtain ⟨ps, hps⟩ : ∃ p, (sumR (mxC j xs i) (atR zs) j).1 = p := ⟨_, rfl⟩
          obtain ⟨qs, hqs⟩ : ∃ p, (sumR (mxC j xs i) (atR zs) j).2 = p := ⟨_, rfl⟩
          rw [hps, hqs] at K8
          have SP : Hid (sumR (mxC j xs i) (atR zs) j = (ps, qs)) := by show _ = _; rw [← hps, ← hqs]
          rw [SP.out] at RF RT
          obtain ⟨c80, c81, f80, f81⟩ := K8.out.all
          have i1 : (i : Int) < (Lb : Int) := by omega
          clear hx hps hqs SP
          by_cases e1 : qs = 1
          rotate_left
          · have V := Lib.hid (VR.out i hlt (RF.out fun h => e1 (congrArg Prod.snd h)))
            have n3 : (qs != 1) = true := by simpa using e1
            go_wp2_with fail
            go_quiet (fail)
            go_wp2_with fail
            go_ret
            exact ⟨by rw [V.out]; rfl, below_drewN BI.out _⟩
          subst e1
          by_cases e2 : ps = x
          rotate_left
          · have V := Lib.hid (VR.out i hlt (RF.out fun h => e2 (congrArg Prod.fst h)))
            have n3 : (ps != x) = true := by simpa using e2
            go_wp2_with fail
            go_quiet (fail)
            go_wp2_with fail
            go_ret
            exact ⟨by rw [V.out]; rfl, below_drewN BI.out _⟩
          subst e2
          have RR := Lib.hid (RT.out rfl)
          have HK2 : Hid (∀ k, k < i + 1 → rowB j xs bs zs k = true) := fun k hk => by
            rcases Nat.lt_or_ge k i with h3 | h3
            · exact HK.out k h3
            · obtain rfl : k = i := by omega
              exact RR.out
          have n3 : (ps != ps) = false := by simp
          go_wp2_with fail
          go_quiet (fail)
          go_wp2_with fail
          go_roundw
          case rel => exact ⟨i + 1, by go_num, by omega, HK2.out, K0.out, below_drewN BI.out _⟩
          case measure => simp [intOf]; omega
    · obtain rfl : i = Lb := by omega
      have V := Lib.hid (VT.out (by first | rfl | trivial) (by first | rfl | trivial) HK.out)
      go_wp2_with fail
      go_ret
      exact ⟨by rw [V.out]; rfl, BO.out⟩
end Go.Proofs.Ytcapddcmnjeloaa
end

section
/-
  Chapter 2, in the program: sums, products, quotients.
-/
namespace Go.Proofs.Ytcapddcmnjeloaa
open Go.RowKit

set_option maxHeartbeats 800000 in
theorem iAdd (a b c d : Int) (w : World) : Calls Try.prog 65 #[.agg #[.int .i64 a, .int .i64 b], .agg #[.int .i64 c, .int .i64 d]] w (Gives (ratV (addR a b c d)) w) := by
  rcases Bool.eq_false_or_eq_true (isRat a b) with ha | ha
  · rcases Bool.eq_false_or_eq_true (isRat c d) with hc | hc
    · have L : Hid (addR a b c d = low (a * d + c * b) (b * d)) := by show addR a b c d = _; unfold addR; rw [ha, hc]; rfl
      have pa := isRat_in (of_decide_eq_true ha)
      have pc := isRat_in (of_decide_eq_true hc)
      obtain ⟨m1, m2⟩ := mul_sm a d pa.1 pc.2
      obtain ⟨m3, m4⟩ := mul_sm c b pc.1 pa.2
      obtain ⟨m5, m6⟩ := mul_sm b d pa.2 pc.2
      obtain ⟨m7, m8⟩ := mul_sm a c pa.1 pc.1
      obtain ⟨m9, m10⟩ := mul_sm b c pa.2 pc.1
      go_enter Try.func65, Try.ntmps65
      go_wp2_with fail
      refine (iIsRat a b _).mono ?_
      rintro e w1 ⟨rfl, hb⟩
      have K0 : Hid (Blk2 w1 w.heap.size 80 (.int .i64 a) (.int .i64 b)) := (((Blk2.at_ _ _ _ rfl).old _).old _).keep hb (by simp <;> omega)
      have K1 : Hid (Blk2 w1 (w.heap.size + 1) 80 (.int .i64 c) (.int .i64 d)) := ((Blk2.at_ _ _ _ (by simp)).old _).keep hb (by simp <;> omega)
      have K2 : Hid (Blk2 w1 (w.heap.size + 1 + 1) 80 (.int .i64 0) (.int .i64 0)) := (Blk2.at_ _ _ _ (by simp)).keep hb (by simp <;> omega)
      have B : Hid (Below w.heap.size w w1) := Below.trans (by repeat (first | exact Below.refl _ _ | refine Below.alloc ?_ (by simp <;> omega) _)) (hb.mono (by simp <;> omega))
      obtain ⟨K0a1, K0b1, K0c1, K0d1⟩ := K0.out.all
      obtain ⟨K1a1, K1b1, K1c1, K1d1⟩ := K1.out.all
      obtain ⟨K2a1, K2b1, K2c1, K2d1⟩ := K2.out.all
      clear hb
      rw [ha]
      go_wp2_with fail
      refine (iIsRat c d _).mono ?_
      rintro e w2 ⟨rfl, hb⟩
      have K0 : Hid (Blk2 w2 w.heap.size 80 (.int .i64 a) (.int .i64 b)) := K0.out.keep hb K0.out.lt
      have K1 : Hid (Blk2 w2 (w.heap.size + 1) 80 (.int .i64 c) (.int .i64 d)) := K1.out.keep hb K1.out.lt
      have K2 : Hid (Blk2 w2 (w.heap.size + 1 + 1) 80 (.int .i64 0) (.int .i64 0)) := K2.out.keep hb K2.out.lt
      have B := Lib.hid (B.out.trans (hb.mono B.out.size))
      obtain ⟨K0a2, K0b2, K0c2, K0d2⟩ := K0.out.all
      obtain ⟨K1a2, K1b2, K1c2, K1d2⟩ := K1.out.all
      obtain ⟨K2a2, K2b2, K2c2, K2d2⟩ := K2.out.all
      clear hb
      rw [hc]
      go_wp2_with fail
      refine (iLowA (a * d + c * b) (b * d) _ (by omega) (by omega)).mono ?_
      rintro e w3 ⟨rfl, hb⟩
      have K2 : Hid (Blk2 w3 (w.heap.size + 1 + 1) 80 (.int .i64 0) (.int .i64 0)) := K2.out.keep hb K2.out.lt
      have B := Lib.hid (B.out.trans (hb.mono B.out.size))
      obtain ⟨K2a3, K2b3, K2c3, K2d3⟩ := K2.out.all
      clear hb
      unfold ratV
      go_wp2_with fail
      obtain ⟨E0, E1, -, -⟩ := ((K2.out.set0 (.int .i64 (low (a * d + c * b) (b * d)).1)).set1 (.int .i64 (low (a * d + c * b) (b * d)).2)).all
      refine bodyPost_ret (v := ratV (low (a * d + c * b) (b * d))) (by simp [results, Try.results65, go_sem, E0, E1, ratV]) rfl ⟨by rw [L.out], ?_⟩
      exact (B.out.setCell (by show w.heap.size ≤ w.heap.size + 1 + 1; omega) _).setCell (by show w.heap.size ≤ w.heap.size + 1 + 1; omega) _
    · have L : Hid (addR a b c d = (0, 0)) := by show addR a b c d = _; unfold addR; rw [ha, hc]; rfl
      go_enter Try.func65, Try.ntmps65
      go_wp2_with fail
      refine (iIsRat a b _).mono ?_
      rintro e w1 ⟨rfl, hb⟩
      have K0 : Hid (Blk2 w1 w.heap.size 80 (.int .i64 a) (.int .i64 b)) := (((Blk2.at_ _ _ _ rfl).old _).old _).keep hb (by simp <;> omega)
      have K1 : Hid (Blk2 w1 (w.heap.size + 1) 80 (.int .i64 c) (.int .i64 d)) := ((Blk2.at_ _ _ _ (by simp)).old _).keep hb (by simp <;> omega)
      have K2 : Hid (Blk2 w1 (w.heap.size + 1 + 1) 80 (.int .i64 0) (.int .i64 0)) := (Blk2.at_ _ _ _ (by simp)).keep hb (by simp <;> omega)
      have B : Hid (Below w.heap.size w w1) := Below.trans (by repeat (first | exact Below.refl _ _ | refine Below.alloc ?_ (by simp <;> omega) _)) (hb.mono (by simp <;> omega))
      obtain ⟨K0a1, K0b1, K0c1, K0d1⟩ := K0.out.all
      obtain ⟨K1a1, K1b1, K1c1, K1d1⟩ := K1.out.all
      obtain ⟨K2a1, K2b1, K2c1, K2d1⟩ := K2.out.all
      clear hb
      rw [ha]
      go_wp2_with fail
      refine (iIsRat c d _).mono ?_
      rintro e w2 ⟨rfl, hb⟩
      have K0 : Hid (Blk2 w2 w.heap.size 80 (.int .i64 a) (.int .i64 b)) := K0.out.keep hb K0.out.lt
      have K1 : Hid (Blk2 w2 (w.heap.size + 1) 80 (.int .i64 c) (.int .i64 d)) := K1.out.keep hb K1.out.lt
      have K2 : Hid (Blk2 w2 (w.heap.size + 1 + 1) 80 (.int .i64 0) (.int .i64 0)) := K2.out.keep hb K2.out.lt
      have B := Lib.hid (B.out.trans (hb.mono B.out.size))
      obtain ⟨K0a2, K0b2, K0c2, K0d2⟩ := K0.out.all
      obtain ⟨K1a2, K1b2, K1c2, K1d2⟩ := K1.out.all
      obtain ⟨K2a2, K2b2, K2c2, K2d2⟩ := K2.out.all
      clear hb
      rw [hc]
      go_wp2_with fail
      obtain ⟨E0, E1, -, -⟩ := ((K2.out.set0 (.int .i64 0)).set1 (.int .i64 0)).all
      refine bodyPost_ret (v := ratV (0, 0)) (by simp [results, Try.results65, go_sem, E0, E1, ratV]) rfl ⟨by rw [L.out], ?_⟩
      exact (B.out.setCell (by show w.heap.size ≤ w.heap.size + 1 + 1; omega) _).setCell (by show w.heap.size ≤ w.heap.size + 1 + 1; omega) _
  · have L : Hid (addR a b c d = (0, 0)) := by show addR a b c d = _; unfold addR; rw [ha]; rfl
    go_enter Try.func65, Try.ntmps65
    go_wp2_with fail
    refine (iIsRat a b _).mono ?_
    rintro e w1 ⟨rfl, hb⟩
    have K0 : Hid (Blk2 w1 w.heap.size 80 (.int .i64 a) (.int .i64 b)) := (((Blk2.at_ _ _ _ rfl).old _).old _).keep hb (by simp <;> omega)
    have K1 : Hid (Blk2 w1 (w.heap.size + 1) 80 (.int .i64 c) (.int .i64 d)) := ((Blk2.at_ _ _ _ (by simp)).old _).keep hb (by simp <;> omega)
    have K2 : Hid (Blk2 w1 (w.heap.size + 1 + 1) 80 (.int .i64 0) (.int .i64 0)) := (Blk2.at_ _ _ _ (by simp)).keep hb (by simp <;> omega)
    have B : Hid (Below w.heap.size w w1) := Below.trans (by repeat (first | exact Below.refl _ _ | refine Below.alloc ?_ (by simp <;> omega) _)) (hb.mono (by simp <;> omega))
    obtain ⟨K0a1, K0b1, K0c1, K0d1⟩ := K0.out.all
    obtain ⟨K1a1, K1b1, K1c1, K1d1⟩ := K1.out.all
    obtain ⟨K2a1, K2b1, K2c1, K2d1⟩ := K2.out.all
    clear hb
    rw [ha]
    go_wp2_with fail
    obtain ⟨E0, E1, -, -⟩ := ((K2.out.set0 (.int .i64 0)).set1 (.int .i64 0)).all
    refine bodyPost_ret (v := ratV (0, 0)) (by simp [results, Try.results65, go_sem, E0, E1, ratV]) rfl ⟨by rw [L.out], ?_⟩
    exact (B.out.setCell (by show w.heap.size ≤ w.heap.size + 1 + 1; omega) _).setCell (by show w.heap.size ≤ w.heap.size + 1 + 1; omega) _

set_option maxHeartbeats 800000 in
theorem iMul (a b c d : Int) (w : World) : Calls Try.prog 66 #[.agg #[.int .i64 a, .int .i64 b], .agg #[.int .i64 c, .int .i64 d]] w (Gives (ratV (mulR a b c d)) w) := by
  rcases Bool.eq_false_or_eq_true (isRat a b) with ha | ha
  · rcases Bool.eq_false_or_eq_true (isRat c d) with hc | hc
    · have L : Hid (mulR a b c d = low (a * c) (b * d)) := by show mulR a b c d = _; unfold mulR; rw [ha, hc]; rfl
      have pa := isRat_in (of_decide_eq_true ha)
      have pc := isRat_in (of_decide_eq_true hc)
      obtain ⟨m1, m2⟩ := mul_sm a d pa.1 pc.2
      obtain ⟨m3, m4⟩ := mul_sm c b pc.1 pa.2
      obtain ⟨m5, m6⟩ := mul_sm b d pa.2 pc.2
      obtain ⟨m7, m8⟩ := mul_sm a c pa.1 pc.1
      obtain ⟨m9, m10⟩ := mul_sm b c pa.2 pc.1
      go_enter Try.func66, Try.ntmps66
      go_wp2_with fail
      refine (iIsRat a b _).mono ?_
      rintro e w1 ⟨rfl, hb⟩
      have K0 : Hid (Blk2 w1 w.heap.size 80 (.int .i64 a) (.int .i64 b)) := (((Blk2.at_ _ _ _ rfl).old _).old _).keep hb (by simp <;> omega)
      have K1 : Hid (Blk2 w1 (w.heap.size + 1) 80 (.int .i64 c) (.int .i64 d)) := ((Blk2.at_ _ _ _ (by simp)).old _).keep hb (by simp <;> omega)
      have K2 : Hid (Blk2 w1 (w.heap.size + 1 + 1) 80 (.int .i64 0) (.int .i64 0)) := (Blk2.at_ _ _ _ (by simp)).keep hb (by simp <;> omega)
      have B : Hid (Below w.heap.size w w1) := Below.trans (by repeat (first | exact Below.refl _ _ | refine Below.alloc ?_ (by simp <;> omega) _)) (hb.mono (by simp <;> omega))
      obtain ⟨K0a1, K0b1, K0c1, K0d1⟩ := K0.out.all
      obtain ⟨K1a1, K1b1, K1c1, K1d1⟩ := K1.out.all
      obtain ⟨K2a1, K2b1, K2c1, K2d1⟩ := K2.out.all
      clear hb
      rw [ha]
      go_wp2_with fail
      refine (iIsRat c d _).mono ?_
      rintro e w2 ⟨rfl, hb⟩
      have K0 : Hid (Blk2 w2 w.heap.size 80 (.int .i64 a) (.int .i64 b)) := K0.out.keep hb K0.out.lt
      have K1 : Hid (Blk2 w2 (w.heap.size + 1) 80 (.int .i64 c) (.int .i64 d)) := K1.out.keep hb K1.out.lt
      have K2 : Hid (Blk2 w2 (w.heap.size + 1 + 1) 80 (.int .i64 0) (.int .i64 0)) := K2.out.keep hb K2.out.lt
      have B := Lib.hid (B.out.trans (hb.mono B.out.size))
      obtain ⟨K0a2, K0b2, K0c2, K0d2⟩ := K0.out.all
      obtain ⟨K1a2, K1b2, K1c2, K1d2⟩ := K1.out.all
      obtain ⟨K2a2, K2b2, K2c2, K2d2⟩ := K2.out.all
      clear hb
      rw [hc]
      go_wp2_with fail
      refine (iLowA (a * c) (b * d) _ (by omega) (by omega)).mono ?_
      rintro e w3 ⟨rfl, hb⟩
      have K2 : Hid (Blk2 w3 (w.heap.size + 1 + 1) 80 (.int .i64 0) (.int .i64 0)) := K2.out.keep hb K2.out.lt
      have B := Lib.hid (B.out.trans (hb.mono B.out.size))
      obtain ⟨K2a3, K2b3, K2c3, K2d3⟩ := K2.out.all
      clear hb
      unfold ratV
      go_wp2_with fail
      obtain ⟨E0, E1, -, -⟩ := ((K2.out.set0 (.int .i64 (low (a * c) (b * d)).1)).set1 (.int .i64 (low (a * c) (b * d)).2)).all
      refine bodyPost_ret (v := ratV (low (a * c) (b * d))) (by simp [results, Try.results66, go_sem, E0, E1, ratV]) rfl ⟨by rw [L.out], ?_⟩
      exact (B.out.setCell (by show w.heap.size ≤ w.heap.size + 1 + 1; omega) _).setCell (by show w.heap.size ≤ w.heap.size + 1 + 1; omega) _
    · have L : Hid (mulR a b c d = (0, 0)) := by show mulR a b c d = _; unfold mulR; rw [ha, hc]; rfl
      go_enter Try.func66, Try.ntmps66
      go_wp2_with fail
      refine (iIsRat a b _).mono ?_
      rintro e w1 ⟨rfl, hb⟩
      have K0 : Hid (Blk2 w1 w.heap.size 80 (.int .i64 a) (.int .i64 b)) := (((Blk2.at_ _ _ _ rfl).old _).old _).keep hb (by simp <;> omega)
      have K1 : Hid (Blk2 w1 (w.heap.size + 1) 80 (.int .i64 c) (.int .i64 d)) := ((Blk2.at_ _ _ _ (by simp)).old _).keep hb (by simp <;> omega)
      have K2 : Hid (Blk2 w1 (w.heap.size + 1 + 1) 80 (.int .i64 0) (.int .i64 0)) := (Blk2.at_ _ _ _ (by simp)).keep hb (by simp <;> omega)
      have B : Hid (Below w.heap.size w w1) := Below.trans (by repeat (first | exact Below.refl _ _ | refine Below.alloc ?_ (by simp <;> omega) _)) (hb.mono (by simp <;> omega))
      obtain ⟨K0a1, K0b1, K0c1, K0d1⟩ := K0.out.all
      obtain ⟨K1a1, K1b1, K1c1, K1d1⟩ := K1.out.all
      obtain ⟨K2a1, K2b1, K2c1, K2d1⟩ := K2.out.all
      clear hb
      rw [ha]
      go_wp2_with fail
      refine (iIsRat c d _).mono ?_
      rintro e w2 ⟨rfl, hb⟩
      have K0 : Hid (Blk2 w2 w.heap.size 80 (.int .i64 a) (.int .i64 b)) := K0.out.keep hb K0.out.lt
      have K1 : Hid (Blk2 w2 (w.heap.size + 1) 80 (.int .i64 c) (.int .i64 d)) := K1.out.keep hb K1.out.lt
      have K2 : Hid (Blk2 w2 (w.heap.size + 1 + 1) 80 (.int .i64 0) (.int .i64 0)) := K2.out.keep hb K2.out.lt
      have B := Lib.hid (B.out.trans (hb.mono B.out.size))
      obtain ⟨K0a2, K0b2, K0c2, K0d2⟩ := K0.out.all
      obtain ⟨K1a2, K1b2, K1c2, K1d2⟩ := K1.out.all
      obtain ⟨K2a2, K2b2, K2c2, K2d2⟩ := K2.out.all
      clear hb
      rw [hc]
      go_wp2_with fail
      obtain ⟨E0, E1, -, -⟩ := ((K2.out.set0 (.int .i64 0)).set1 (.int .i64 0)).all
      refine bodyPost_ret (v := ratV (0, 0)) (by simp [results, Try.results66, go_sem, E0, E1, ratV]) rfl ⟨by rw [L.out], ?_⟩
      exact (B.out.setCell (by show w.heap.size ≤ w.heap.size + 1 + 1; omega) _).setCell (by show w.heap.size ≤ w.heap.size + 1 + 1; omega) _
  · have L : Hid (mulR a b c d = (0, 0)) := by show mulR a b c d = _; unfold mulR; rw [ha]; rfl
    go_enter Try.func66, Try.ntmps66
    go_wp2_with fail
    refine (iIsRat a b _).mono ?_
    rintro e w1 ⟨rfl, hb⟩
    have K0 : Hid (Blk2 w1 w.heap.size 80 (.int .i64 a) (.int .i64 b)) := (((Blk2.at_ _ _ _ rfl).old _).old _).keep hb (by simp <;> omega)
    have K1 : Hid (Blk2 w1 (w.heap.size + 1) 80 (.int .i64 c) (.int .i64 d)) := ((Blk2.at_ _ _ _ (by simp)).old _).keep hb (by simp <;> omega)
    have K2 : Hid (Blk2 w1 (w.heap.size + 1 + 1) 80 (.int .i64 0) (.int .i64 0)) := (Blk2.at_ _ _ _ (by simp)).keep hb (by simp <;> omega)
    have B : Hid (Below w.heap.size w w1) := Below.trans (by repeat (first | exact Below.refl _ _ | refine Below.alloc ?_ (by simp <;> omega) _)) (hb.mono (by simp <;> omega))
    obtain ⟨K0a1, K0b1, K0c1, K0d1⟩ := K0.out.all
    obtain ⟨K1a1, K1b1, K1c1, K1d1⟩ := K1.out.all
    obtain ⟨K2a1, K2b1, K2c1, K2d1⟩ := K2.out.all
    clear hb
    rw [ha]
    go_wp2_with fail
    obtain ⟨E0, E1, -, -⟩ := ((K2.out.set0 (.int .i64 0)).set1 (.int .i64 0)).all
    refine bodyPost_ret (v := ratV (0, 0)) (by simp [results, Try.results66, go_sem, E0, E1, ratV]) rfl ⟨by rw [L.out], ?_⟩
    exact (B.out.setCell (by show w.heap.size ≤ w.heap.size + 1 + 1; omega) _).setCell (by show w.heap.size ≤ w.heap.size + 1 + 1; omega) _

end Go.Proofs.Ytcapddcmnjeloaa
end

section
/-
  Chapter 11, in the program: IsRational.
-/
namespace Go.Proofs.Ytcapddcmnjeloaa
set_option maxRecDepth 100000
open Go.RowKit

/-- The cells that one product reads, in every later world. -/
theorem ratG {W w' : World} {g : Nat} {t2 : TypeId} {s1 s2 z1 z2 : Value} {y1 y2 : Addr} (h1 : Blk2 W g t2 s1 s2) (hz1 : W.cell? y1 = some z1) (hz2 : W.cell? y2 = some z2) (hb : Below W.heap.size W w') :
    w'.cell? ⟨g, 0, none⟩ = some s1 ∧ w'.cell? ⟨g, 1, none⟩ = some s2 ∧ w'.cell? y1 = some z1 ∧ w'.cell? y2 = some z2 := by
  obtain ⟨b1, b2, -, -⟩ := (h1.keep hb h1.lt).all
  have far : ∀ {a : Addr} {u : Value}, W.cell? a = some u → w'.cell? a = some u := fun {a u} h => (hb.cell (World.block_lt_of_cell? W a h)).trans h
  exact ⟨b1, b2, far hz1, far hz2⟩
set_option maxHeartbeats 4000000 in
theorem iRational (r c : Int) (a : Option Addr) (m : Nat) (xs : List Int) (ab : Option Addr) (mb : Nat) (bs : List Int) (az : Option Addr) (mz : Nat) (zs : List (Int × Int)) (w : World) (h : Rd w a xs) (ha : CelA a xs.length m) (hn : xs.length ≤ 16777216) (hb : Rd w ab bs) (hbn : bs.length ≤ 16777216) (hz : RdQ w az zs) (hzn : zs.length ≤ 16777216) :
    Calls Try.prog 30 #[.agg #[.int .i64 r, .int .i64 c, .slice a xs.length m], .slice ab bs.length mb, .slice az zs.length mz] w (Gives (.bool (irB r c xs bs zs)) w) := by
  have IM : Hid (∀ w', Below w.heap.size w w' → Calls Try.prog 49 #[.agg #[.int .i64 r, .int .i64 c, .slice a xs.length m]] w' (Gives (.bool (isMat r c xs)) w')) := fun w' hb => iIsMat r c a m xs w' (h.below hb) hn
  have K0 : Hid (Blk3 (w.alloc (.cells #[.int .i64 r, .int .i64 c, .slice a xs.length m] 26)) w.heap.size 26 (.int .i64 r) (.int .i64 c) (.slice a xs.length m)) := Blk3.at_ _ _ _ _ rfl
  have B0 : Hid (Below w.heap.size w (w.alloc (.cells #[.int .i64 r, .int .i64 c, .slice a xs.length m] 26))) := (Below.refl _ _).alloc (Nat.le_refl _) _
  rcases Bool.eq_false_or_eq_true (isMat r c xs) with hm | hm
  rotate_left
  · have V : Hid (irB r c xs bs zs = false) := irB_false (.inl hm)
    go_enter Try.func30, Try.ntmps30
    go_wp2_with fail
    refine (IM.out _ B0.out).mono ?_
    rintro e w1 ⟨rfl, hb1⟩
    rw [hm]
    have B1 := Lib.hid (B0.out.trans (hb1.mono B0.out.size))
    clear hb1
    go_wp2_with fail
    go_ret
    exact ⟨by rw [V.out]; rfl, B1.out⟩
  obtain ⟨⟨r0, r1⟩, ⟨c0, c1⟩, hl, hnx⟩ := isMat_says hm
  obtain ⟨R, rfl⟩ := Int.eq_ofNat_of_zero_le r0
  obtain ⟨C, rfl⟩ := Int.eq_ofNat_of_zero_le c0
  have hl : xs.length = R * C := by rw [← Int.natCast_mul] at hl; omega
  have R24 : R ≤ 24 := by omega
  have C24 : C ≤ 24 := by omega
  have V1 : Hid ((bs.length : Int) ≠ R → irB R C xs bs zs = false) := fun h => irB_false (.inr (.inl h))
  have V2 : Hid ((zs.length : Int) ≠ C → irB R C xs bs zs = false) := fun h => irB_false (.inr (.inr h))
  have VR : Hid (∀ i, i < R → rowB C xs bs zs i = false → irB R C xs bs zs = false) := fun i hi h => irB_row hi h
  have VT : Hid (bs.length = R → zs.length = C → (∀ i, i < R → rowB C xs bs zs i = true) → irB R C xs bs zs = true) := fun h1 h2 h3 => irB_true hm h1 h2 h3
  have RX : Hid (Rd w a xs) := h
  have RB : Hid (Rd w ab bs) := hb
  have RZ : Hid (RdQ w az zs) := hz
  have HA : Hid (CelA a xs.length m) := ha
  generalize irB R C xs bs zs = bb at V1 V2 VR VT ⊢
  obtain ⟨L, hL⟩ : ∃ L, xs.length = L := ⟨_, rfl⟩
  rw [hL] at IM K0 B0 hn hl HA ⊢
  obtain ⟨Lb, hLb⟩ : ∃ Lb, bs.length = Lb := ⟨_, rfl⟩
  obtain ⟨Lz, hLz⟩ : ∃ Lz, zs.length = Lz := ⟨_, rfl⟩
  rw [hLb] at V1 VT hbn ⊢
  rw [hLz] at V2 VT hzn ⊢
  have XB := Lib.hid hLb
  have XN := Lib.hid hL
  have XZ := Lib.hid hLz
  have L6 : L ≤ 600 := by rw [hl]; exact Nat.le_trans (Nat.mul_le_mul R24 C24) (by decide)
  have RW : Hid (∀ i, i < R → ∀ w', Calls Try.prog 42 #[.agg #[.int .i64 R, .int .i64 C, .slice a L m], .int .i64 i] w' (RowAt a (i * C) C w')) := fun i hi w' => iRowIn R C i (i * C) L m a w' HA.out.spot rfl (by rw [hl, ← Nat.succ_mul]; exact Nat.mul_le_mul_right _ hi) HA.out.le HA.out.nil L6 (by omega)
  have HLX := Lib.hid hl
  clear h ha hb hz hLb hLz hL hl hnx
  go_enter Try.func30, Try.ntmps30
  go_wp2_with fail
  refine (IM.out _ B0.out).mono ?_
  rintro e w1 ⟨rfl, hb1⟩
  rw [hm]
  have B1 := Lib.hid (B0.out.trans (hb1.mono B0.out.size))
  have K1 := Lib.hid (K0.out.step hb1)
  clear hb1 hm IM
  obtain ⟨p0, p1, p2, -, -, -⟩ := K1.out.all
  by_cases h1 : (Lb : Int) = R
  rotate_left
  · have V := Lib.hid (V1.out h1)
    have n1 : ((Lb : Int) != (R : Int)) = true := by simpa using h1
    go_wp2_with fail
    go_ret
    exact ⟨by rw [V.out]; rfl, B1.out⟩
  have n1 : ((Lb : Int) != (R : Int)) = false := by simp; omega
  by_cases h2 : (Lz : Int) = C
  rotate_left
  · have V := Lib.hid (V2.out h2)
    have n2 : ((Lz : Int) != (C : Int)) = true := by simpa using h2
    go_wp2_with fail
    go_ret
    exact ⟨by rw [V.out]; rfl, B1.out⟩
  have n2 : ((Lz : Int) != (C : Int)) = false := by simp; omega
  have h1 : Lb = R := by omega
  have h2 : Lz = C := by omega
  subst h1 h2
  go_wp2_with fail
  go_loopw [7, 8, 9, 10, 11, 31] (fun _ _ _ _ _ v31 wr => ∃ i : Nat, v31 = .int .i64 i ∧ i ≤ Lb ∧ (∀ k, k < i → rowB Lz xs bs zs k = true) ∧ Blk3 wr w.heap.size 26 (.int .i64 Lb) (.int .i64 Lz) (.slice a L m) ∧ Below w.heap.size w wr) (fun _ _ _ _ _ v31 _ => Lb - (intOf v31).toNat)
  case atStart => exact ⟨0, rfl, by omega, fun k hk => by omega, K1.out, B1.out⟩
  case round =>
    obtain ⟨i, rfl, hi, hk, hK, hB⟩ := hrel
    have HK := Lib.hid hk
    have KO := Lib.hid hK
    have BO := Lib.hid hB
    clear hk hK hB K1 B1 p0 p1 p2
    by_cases hlt : i < Lb
    · have KM := Lib.hid (KO.out.old (.cells #[.int .i64 0, .int .i64 1] 80))
      have KS : Hid (Blk2 (wr.alloc (.cells #[.int .i64 0, .int .i64 1] 80)) wr.heap.size 80 (.int .i64 0) (.int .i64 1)) := Blk2.at_ _ _ _ rfl
      have BM := Lib.hid (BO.out.alloc BO.out.size (.cells #[.int .i64 0, .int .i64 1] 80))
      have s0 := BO.out.size
      have sK := KO.out.lt
      obtain ⟨b3, o3, rfl, hc4⟩ := (RB.out.below BO.out) i (by rw [XB.out]; exact hlt)
      obtain ⟨x, hx⟩ : ∃ x, bs.getD i 0 = x := ⟨_, rfl⟩
      have HX := Lib.hid hx
      rw [hx] at hc4
      obtain ⟨p0, p1, p2, -, -, -⟩ := KM.out.all
      clear hx
      go_upto_region 7 with fail
      obtain ⟨g, hg⟩ : ∃ g, wr.heap.size = g := ⟨_, rfl⟩
      rw [hg] at KS s0 sK ⊢
      generalize wr.alloc (.cells #[.int .i64 0, .int .i64 1] 80) = W at KM KS BM p0 p1 p2 ⊢
      clear KO BO hg hc4
      go_wp2_with fail
      refine (RW.out i hlt _).mono ?_
      rintro e w7 ⟨q7, m7, rfl, hm7, hq7, -, hb7⟩
      have KM := Lib.hid (KM.out.step hb7)
      have KS := Lib.hid (KS.out.keep hb7 KS.out.lt)
      have BM := Lib.hid (BM.out.trans (hb7.mono BM.out.size))
      have SRC : Hid (∀ wx, Below w.heap.size w wx → Rd wx q7 (rwL Lz (mxC Lz xs i))) := fun wx hgx => (RX.out.below hgx).row (by rw [XN.out, HLX.out]) hlt hq7
      clear hb7 hq7 p0 p1 p2
      go_wp2_with fail
      go_loopw [10, 11, 41] (fun _ _ v41 wi => ∃ j : Nat, v41 = .int .i64 j ∧ j ≤ Lz ∧ Blk3 wi w.heap.size 26 (.int .i64 Lb) (.int .i64 Lz) (.slice a L m) ∧ Blk2 wi g 80 (.int .i64 (sumR (mxC Lz xs i) (atR zs) j).1) (.int .i64 (sumR (mxC Lz xs i) (atR zs) j).2) ∧ Below w.heap.size w wi) (fun _ _ v41 _ => Lz - (intOf v41).toNat)
      case atStart => exact ⟨0, rfl, by omega, KM.out, KS.out, BM.out⟩
      case round =>
        clear KM KS BM
        obtain ⟨j, rfl, hj, hK, hS8, hB⟩ := hrel
        have K0 := Lib.hid hK
        have K8 := Lib.hid hS8
        have BI := Lib.hid hB
        clear hK hS8 hB
        by_cases hjl : j < Lz
        · obtain ⟨b1, o1, rfl, hc1⟩ := SRC.out _ BI.out j (by rw [rwL_length]; exact hjl)
          rw [rwL_at hjl] at hc1
          obtain ⟨b2, o2, rfl, -, hc2, hc3⟩ := (RZ.out.below BI.out) j (by rw [XZ.out]; exact hjl)
          have SS := Lib.hid (sumR_succ (mxC Lz xs i) (atR zs) j)
          have ZE : Hid (atR zs j = zs.getD j (0, 0)) := rfl
          obtain ⟨u, hu⟩ : ∃ u, mxC Lz xs i j = u := ⟨_, rfl⟩
          obtain ⟨zn, hzn⟩ : ∃ z, (zs.getD j (0, 0)).1 = z := ⟨_, rfl⟩
          obtain ⟨zd, hzd⟩ : ∃ z, (zs.getD j (0, 0)).2 = z := ⟨_, rfl⟩
          have SS : Hid (sumR (mxC Lz xs i) (atR zs) (j + 1) = addR (sumR (mxC Lz xs i) (atR zs) j).1 (sumR (mxC Lz xs i) (atR zs) j).2 (mulR u 1 zn zd).1 (mulR u 1 zn zd).2) := by
            refine Lib.hid ?_
            rw [SS.out, ZE.out, hu, hzn, hzd]
          rw [hu] at hc1
          rw [hzn] at hc2
          rw [hzd] at hc3
          have Z1 := Lib.hid hc2
          have Z2 := Lib.hid hc3
          obtain ⟨ps, hps⟩ : ∃ p, (sumR (mxC Lz xs i) (atR zs) j).1 = p := ⟨_, rfl⟩
          obtain ⟨qs, hqs⟩ : ∃ p, (sumR (mxC Lz xs i) (atR zs) j).2 = p := ⟨_, rfl⟩
          rw [hps, hqs] at SS K8
          obtain ⟨sn, hsn⟩ : ∃ p, (mulR u 1 zn zd).1 = p := ⟨_, rfl⟩
          obtain ⟨sd, hsd⟩ : ∃ p, (mulR u 1 zn zd).2 = p := ⟨_, rfl⟩
          rw [hsn, hsd] at SS
          have MU : Hid (∀ w', Calls Try.prog 66 #[.agg #[.int .i64 u, .int .i64 1], .agg #[.int .i64 zn, .int .i64 zd]] w' (Gives (.agg #[.int .i64 sn, .int .i64 sd]) w')) := fun w' => by rw [← hsn, ← hsd]; exact iMul u 1 zn zd w'
          have AD : Hid (∀ w', Calls Try.prog 65 #[.agg #[.int .i64 ps, .int .i64 qs], .agg #[.int .i64 sn, .int .i64 sd]] w' (Gives (.agg #[.int .i64 (addR ps qs sn sd).1, .int .i64 (addR ps qs sn sd).2]) w')) := fun w' => iAdd ps qs sn sd w'
          clear hc2 hc3 hu hzn hzd hps hqs hsn hsd
          go_upto_region 10 with fail
          clear hc1
          refine wp_region_T (S := fun w' => Below wr.heap.size wr w') (T := fun j => j == 9) (by kernel_rfl) (Below.refl _ _).drew (fun hH => ?_)
          refine wpAnyT_take (i := 0) (v := ?_) (by simp only [List.getElem?_toArray, List.getElem?_cons_zero]; rfl) (by kernel_rfl) (by kernel_rfl) (by kernel_rfl) (by kernel_rfl) (one_only 9 (by kernel_rfl)) (by exact fun _ _ _ h => h) (Or.inl ⟨by rfl, ?_⟩) hH ?_
          rotate_left
          · (intro wS hS; (try dsimp only at hS); obtain ⟨k1, k2, k3, k4⟩ := ratG K8.out Z1.out Z2.out hS; go_simp; try rfl)
          try simp only [Act.put, List.setIfInBounds_toArray, List.set_cons_zero, List.set_cons_succ]
          refine wpAnyT_take (i := 1) (v := ?_) (by simp only [List.getElem?_toArray, List.getElem?_cons_succ, List.getElem?_cons_zero]; rfl) (by kernel_rfl) (by kernel_rfl) (by kernel_rfl) (by kernel_rfl) (one_only 9 (by kernel_rfl)) (by exact fun _ _ _ h => h) (Or.inl ⟨by rfl, ?_⟩) hH ?_
          rotate_left
          · (intro wS hS; clear hS; go_simp; try rfl)
          try simp only [Act.put, List.setIfInBounds_toArray, List.set_cons_zero, List.set_cons_succ]
          refine wpAnyT_take (i := 2) (v := ?_) (by simp only [List.getElem?_toArray, List.getElem?_cons_succ, List.getElem?_cons_zero]; rfl) (by kernel_rfl) (by kernel_rfl) (by kernel_rfl) (by kernel_rfl) (one_only 9 (by kernel_rfl)) (by exact fun _ _ _ h => h) (Or.inl ⟨by rfl, ?_⟩) hH ?_
          rotate_left
          · (intro wS hS; clear hS; go_simp; try rfl)
          try simp only [Act.put, List.setIfInBounds_toArray, List.set_cons_zero, List.set_cons_succ]
          refine wpAnyT_take (i := 3) (v := ?_) (by simp only [List.getElem?_toArray, List.getElem?_cons_succ, List.getElem?_cons_zero]; rfl) (by kernel_rfl) (by kernel_rfl) (by kernel_rfl) (by kernel_rfl) (one_only 9 (by kernel_rfl)) (by exact fun _ _ _ h => h) (Or.inl ⟨by rfl, ?_⟩) hH ?_
          rotate_left
          · (intro wS hS; clear hS; go_simp; try rfl)
          try simp only [Act.put, List.setIfInBounds_toArray, List.set_cons_zero, List.set_cons_succ]
          refine wpAnyT_take (i := 4) (v := ?_) (by simp only [List.getElem?_toArray, List.getElem?_cons_succ, List.getElem?_cons_zero]; rfl) (by kernel_rfl) (by kernel_rfl) (by kernel_rfl) (by kernel_rfl) (one_only 9 (by kernel_rfl)) (by exact fun _ _ _ h => h) (Or.inl ⟨by rfl, ?_⟩) hH ?_
          rotate_left
          · (intro wS hS; clear hS; go_simp; try rfl)
          try simp only [Act.put, List.setIfInBounds_toArray, List.set_cons_zero, List.set_cons_succ]
          refine wpAnyT_take (i := 5) (v := ?_) (by simp only [List.getElem?_toArray, List.getElem?_cons_succ, List.getElem?_cons_zero]; rfl) (by kernel_rfl) (by kernel_rfl) (by kernel_rfl) (by kernel_rfl) (one_only 9 (by kernel_rfl)) (by exact fun _ _ _ h => h) (Or.inl ⟨by rfl, ?_⟩) hH ?_
          rotate_left
          · (intro wS hS; clear hS; go_simp; try rfl)
          try simp only [Act.put, List.setIfInBounds_toArray, List.set_cons_zero, List.set_cons_succ]
          refine wpAnyT_take (i := 6) (v := ?_) (by simp only [List.getElem?_toArray, List.getElem?_cons_succ, List.getElem?_cons_zero]; rfl) (by kernel_rfl) (by kernel_rfl) (by kernel_rfl) (by kernel_rfl) (one_only 9 (by kernel_rfl)) (by exact fun _ _ _ h => h) (Or.inl ⟨by rfl, ?_⟩) hH ?_
          rotate_left
          · (intro wS hS; (try dsimp only at hS); obtain ⟨k1, k2, k3, k4⟩ := ratG K8.out Z1.out Z2.out hS; go_simp; try rfl)
          try simp only [Act.put, List.setIfInBounds_toArray, List.set_cons_zero, List.set_cons_succ]
          refine wpAnyT_ready (rs := [7]) (by kernel_rfl) (by simp) ?_
          refine AllReadyT.cons (by simp only [List.getElem?_toArray, List.getElem?_cons_succ, List.getElem?_cons_zero]; rfl) (fun K hK => ?_) AllReadyT.nil
          go_simp
          (with_reducible refine (MU.out _).mono ?_)
          rintro e v1 ⟨rfl, hb1⟩
          try dsimp only
          refine hK.out _ _ (fun _ => hH.trans (hb1.mono hH.size)) ?_
          clear hK K
          have hH := hH.trans (hb1.mono hH.size)
          try simp only [Act.put, List.setIfInBounds_toArray, List.set_cons_zero, List.set_cons_succ]
          refine wpAnyT_ready (rs := [8]) (by kernel_rfl) (by simp) ?_
          refine AllReadyT.cons (by simp only [List.getElem?_toArray, List.getElem?_cons_succ, List.getElem?_cons_zero]; rfl) (fun K hK => ?_) AllReadyT.nil
          go_simp
          (with_reducible refine (AD.out _).mono ?_)
          rintro e v2 ⟨rfl, hb2⟩
          try dsimp only
          refine hK.out _ _ (fun _ => hH.trans (hb2.mono hH.size)) ?_
          clear hK K
          have hH := hH.trans (hb2.mono hH.size)
          try simp only [Act.put, List.setIfInBounds_toArray, List.set_cons_zero, List.set_cons_succ]
          refine wpAnyT_ready (rs := [9]) (by kernel_rfl) (by simp) ?_
          refine AllReadyT.cons (by simp only [List.getElem?_toArray, List.getElem?_cons_succ, List.getElem?_cons_zero]; rfl) (fun K hK => ?_) AllReadyT.nil
          have K8 := Lib.hid (K8.out.keep hH K8.out.lt)
          obtain ⟨c80, c81, f80, f81⟩ := K8.out.all
          go_simp
          try dsimp only
          refine hK.out _ _ (fun h => by cases h) ?_
          clear hK K
          try simp only [Act.put, List.setIfInBounds_toArray, List.set_cons_zero, List.set_cons_succ]
          refine wpAnyT_done (by kernel_rfl) ?_ _
          go_wp2_with fail
          go_roundw
          case rel =>
            refine ⟨j + 1, by go_num, by omega, ((K0.out.step hH).far (by show w.heap.size ≠ g; omega) _).far (by show w.heap.size ≠ g; omega) _, ?_, ?_⟩
            · rw [SS.out]
              exact (K8.out.set0 _).set1 _
            · exact ((BI.out.trans (hH.mono BI.out.size)).setCell (by show w.heap.size ≤ g; omega) _).setCell (by show w.heap.size ≤ g; omega) _
          case measure => simp [intOf]; omega
        · obtain rfl : j = Lz := by omega
          have RF : Hid (sumR (mxC j xs i) (atR zs) j ≠ (bs.getD i 0, 1) → rowB j xs bs zs i = false) := fun h => decide_eq_false h
          have RT : Hid (sumR (mxC j xs i) (atR zs) j = (bs.getD i 0, 1) → rowB j xs bs zs i = true) := fun h => decide_eq_true h
          rw [HX.out] at RF RT
          obtain ⟨ps, hps⟩ : ∃ p, (sumR (mxC j xs i) (atR zs) j).1 = p := ⟨_, rfl⟩
          obtain ⟨qs, hqs⟩ : ∃ p, (sumR (mxC j xs i) (atR zs) j).2 = p := ⟨_, rfl⟩
          rw [hps, hqs] at K8
          have SP : Hid (sumR (mxC j xs i) (atR zs) j = (ps, qs)) := by show _ = _; rw [← hps, ← hqs]
          rw [SP.out] at RF RT
          obtain ⟨c80, c81, f80, f81⟩ := K8.out.all
          clear hps hqs SP hjl
          by_cases e1 : ps = x ∧ qs = 1
          rotate_left
          · have V := Lib.hid (VR.out i hlt (RF.out fun h => e1 ⟨congrArg Prod.fst h, congrArg Prod.snd h⟩))
            have E : ∀ w : World, (Op.equalIn 10000 80 (.agg #[.int .i64 ps, .int .i64 qs]) (.agg #[.int .i64 x, .int .i64 1])).run Try.prog w = .ok false w := fun w => by
              rw [eqRat, show (ps == x && qs == 1) = false by
                rw [Bool.and_eq_false_iff]
                by_cases h : ps = x
                · exact .inr (by simpa using fun h2 => e1 ⟨h, h2⟩)
                · exact .inl (by simpa using h)]
            clear e1
            go_wp2_with fail
            go_ret
            exact ⟨by rw [V.out]; rfl, BI.out⟩
          have RR := Lib.hid (RT.out (by rw [e1.1, e1.2]))
          have HK2 : Hid (∀ k, k < i + 1 → rowB j xs bs zs k = true) := fun k hk => by
            rcases Nat.lt_or_ge k i with h3 | h3
            · exact HK.out k h3
            · obtain rfl : k = i := by omega
              exact RR.out
          have E : ∀ w : World, (Op.equalIn 10000 80 (.agg #[.int .i64 ps, .int .i64 qs]) (.agg #[.int .i64 x, .int .i64 1])).run Try.prog w = .ok true w := fun w => by
            rw [eqRat, e1.1, e1.2]; simp
          clear e1
          go_wp2_with fail
          go_roundw
          case rel => exact ⟨i + 1, by go_num, by omega, HK2.out, K0.out, BI.out⟩
          case measure => simp [intOf]; omega
    · obtain rfl : i = Lb := by omega
      have V := Lib.hid (VT.out (by first | rfl | trivial) (by first | rfl | trivial) HK.out)
      go_wp2_with fail
      go_ret
      exact ⟨by rw [V.out]; rfl, BO.out⟩
end Go.Proofs.Ytcapddcmnjeloaa
end

section
/-
  A slice of ratios that came in as an argument, opened.
-/
namespace Go.Proofs.Ytcapddcmnjeloaa
open Go.RowKit

theorem cells_ratQ : Try.prog.cellsOf 83 = 2 := by kernel_rfl
def numVQ : Option Value → Int
  | some (.int _ z) => z
  | _ => 0
theorem add_addQ (x : Addr) (h : x.spot = none) (i j : Nat) : (x.add i).add j = ⟨x.block, x.off + i + j, none⟩ := by
  obtain ⟨b, o, s⟩ := x
  obtain rfl : s = none := h
  simp only [Addr.add]
  by_cases h1 : i = 0 <;> by_cases h2 : j = 0 <;> simp [h1, h2]
theorem one_intQ {t : TypeId} {H : Type} {enc : TypeId × Value → H} {W : World} {base fuel : Nat} {held : Bool} {cs : List Value} {y : DataW H × List MemPlace} (ht : Try.prog.underlying t = some (.int .i64)) (j : Nat)
    (h : DataW.trod enc Try.prog W base (fun _ => true) held fuel t ((cs.drop j).take 1) = some y) : ∃ z, cs[j]? = some (.int .i64 z) := by
  obtain ⟨z, e, -, -⟩ := DataW.trod_int ht h
  refine ⟨z, ?_⟩
  have := congrArg (fun l : List Value => l[0]?) e
  simpa [List.getElem?_take, List.getElem?_drop] using this
set_option maxRecDepth 100000 in
theorem rdQ_of {H : Type} {enc : TypeId × Value → H} {W : World} {base : Nat} {held : Bool} {a : Option Addr} {len cap fuel : Nat} {x : DataW H × List MemPlace}
    (hf : DataW.trod enc Try.prog W base (fun _ => true) held fuel 46 [.slice a len cap] = some x) : ∃ l : List (Int × Int), RdQ W a l ∧ l.length = len ∧ len ≤ maxLen := by
  rcases DataW.trod_slice Try.underlying46 hf with ⟨hcs, -⟩ | ⟨x, len', cap', elems, rest, n, -, hcs, -, -, hl, hm, hlen, hel, -, -⟩
  · simp at hcs
    obtain ⟨rfl, rfl, rfl⟩ := hcs
    exact ⟨[], fun q h => absurd h (by simp), rfl, by decide⟩
  · simp at hcs
    obtain ⟨rfl, rfl, rfl⟩ := hcs
    have key : ∀ q : Nat, q < len → ∃ z0 z1 : Int, W.cell? ((x.add (q * 2)).add 0) = some (.int .i64 z0) ∧ W.cell? ((x.add (q * 2)).add 1) = some (.int .i64 z1) := by
      intro q hq'
      have he := hel q hq'
      rw [cells_ratQ, List.getElem?_eq_getElem (by omega), Option.bind_eq_some_iff] at he
      obtain ⟨cs, hc, ht⟩ := he
      obtain ⟨-, hcl, hcell⟩ := World.cells?_some hc
      obtain ⟨y0, y1, m, -, -, t0, t1⟩ := ChangeShapes.trod_struct2 Try.underlying83 ht
      obtain ⟨z0, e0⟩ := one_intQ Try.underlying3 0 t0
      obtain ⟨z1, e1⟩ := one_intQ Try.underlying3 1 t1
      exact ⟨z0, z1, (hcell 0 (by omega)).trans e0, (hcell 1 (by omega)).trans e1⟩
    refine ⟨(List.range len).map fun q => (numVQ (W.cell? ((x.add (q * 2)).add 0)), numVQ (W.cell? ((x.add (q * 2)).add 1))), fun q hq => ?_, by simp, by omega⟩
    have hq' : q < len := by simpa using hq
    have hs : x.spot = none := by
      obtain ⟨z0, -, h0, -⟩ := key 0 (by omega)
      simpa [Addr.add] using World.cell?_spot h0
    obtain ⟨z0, z1, h0, h1⟩ := key q hq'
    have ex : x = ⟨x.block, x.off, none⟩ := by obtain ⟨b, o, s⟩ := x; obtain rfl : s = none := hs; rfl
    have hb : x.block < W.heap.size := by
      rw [add_addQ x hs] at h0
      rcases Nat.lt_or_ge x.block W.heap.size with h | h
      · exact h
      · simp [World.cell?, Array.getElem?_eq_none h] at h0
    have g : ((List.range len).map fun q => ((numVQ (W.cell? ((x.add (q * 2)).add 0)), numVQ (W.cell? ((x.add (q * 2)).add 1))) : Int × Int)).getD q (0, 0) = (z0, z1) := by
      simp [List.getD, hq', h0, h1, numVQ]
    rw [g]
    rw [add_addQ x hs] at h0 h1
    exact ⟨x.block, x.off, by rw [← ex], hb, h0, h1⟩
end Go.Proofs.Ytcapddcmnjeloaa
end
