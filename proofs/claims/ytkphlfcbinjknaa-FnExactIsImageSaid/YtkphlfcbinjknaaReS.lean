/-
  Chapter 10, in the model: IsImage, ResidueOf, RatioFrom.
-/
import Derived.Test.YtkphlfcbinjknaaReL
import Derived.Test.YtkphlfcbinjknaaMdS
import Derived.Test.YtkphlfcbinjknaaRatS
import Derived.Test.YtkphlfcbinjknaaNumExt
import Derived.BigQuiet
import Derived.Deep.QuietTactic
namespace Go.Proofs.Ytkphlfcbinjknaa
set_option maxRecDepth 100000
open Go.RowKit

/-- What IsImage and ResidueOf calculate: residues and their products. -/
theorem res_size {m : Int} (h : 1 ≤ m ∧ m ≤ 400000000) (a b : Int) : (0 ≤ a % m ∧ a % m < m) ∧ (0 ≤ b % m ∧ b % m < m) ∧ (0 ≤ a % m * (b % m) ∧ a % m * (b % m) ≤ 160000000000000000) := by
  have a0 := Int.emod_nonneg a (show m ≠ 0 by omega)
  have a1 := Int.emod_lt_of_pos a (show 0 < m by omega)
  have b0 := Int.emod_nonneg b (show m ≠ 0 by omega)
  have b1 := Int.emod_lt_of_pos b (show 0 < m by omega)
  obtain ⟨-, h2⟩ := mul_sm (a % m) (b % m) ⟨by omega, by omega⟩ ⟨by omega, by omega⟩
  exact ⟨⟨a0, a1⟩, ⟨b0, b1⟩, Int.mul_nonneg a0 b0, h2⟩
set_option maxHeartbeats 1000000 in
theorem sImage (n d a m : Int) (w : World) : Calls Try.prog 14 #[.agg #[.int .i64 n, .int .i64 d], .int .i64 a, .int .i64 m] w (Gives (.bool (imB n d a m)) w) := by
  rcases Bool.eq_false_or_eq_true (isRat n d) with hr | hr
  rotate_left
  · have E : Hid (imB n d a m = false) := imB_no (.inl (imA_rat hr))
    go_enter Try.func14, Try.ntmps14
    go_wp2_with fail
    refine (sIsRat n d _).mono ?_
    rintro e w1 ⟨rfl, hb⟩
    have B : Hid (Below w.heap.size w w1) := Below.trans (by repeat (first | exact Below.refl _ _ | refine Below.alloc ?_ (by simp <;> omega) _)) (hb.mono (by simp <;> omega))
    clear hb
    rw [hr]
    go_wp2_with fail
    go_ret
    exact ⟨by rw [E.out]; rfl, B.out⟩
  have pr : IsRatP n d := of_decide_eq_true hr
  obtain ⟨r1, r2, r3, r4, -⟩ := pr
  by_cases ha : NumP a
  rotate_left
  · have E : Hid (imB n d a m = false) := imB_no (.inr ha)
    have ha' : a < -400000000 ∨ 400000000 < a := by unfold NumP at ha; omega
    clear ha
    go_enter Try.func14, Try.ntmps14
    go_wp2_with fail
    refine (sIsRat n d _).mono ?_
    rintro e w1 ⟨rfl, hb⟩
    have B : Hid (Below w.heap.size w w1) := Below.trans (by repeat (first | exact Below.refl _ _ | refine Below.alloc ?_ (by simp <;> omega) _)) (hb.mono (by simp <;> omega))
    clear hb
    rw [hr]
    go_wp2_with fail
    refine (sIsNum_f a _ ha').mono ?_
    rintro e w' ⟨rfl, rfl⟩
    go_wp2_with fail
    go_ret
    exact ⟨by rw [E.out]; rfl, B.out⟩
  by_cases hm : 1 ≤ m ∧ m ≤ 400000000
  rotate_left
  · have E : Hid (imB n d a m = false) := imB_no (.inl (imA_mod hm))
    have hm' : m < 1 ∨ 400000000 < m := by omega
    clear hm
    go_enter Try.func14, Try.ntmps14
    go_wp2_with fail
    refine (sIsRat n d _).mono ?_
    rintro e w1 ⟨rfl, hb⟩
    have B : Hid (Below w.heap.size w w1) := Below.trans (by repeat (first | exact Below.refl _ _ | refine Below.alloc ?_ (by simp <;> omega) _)) (hb.mono (by simp <;> omega))
    clear hb
    rw [hr]
    go_wp2_with fail
    refine (sIsNum_t a _ ha.1 ha.2).mono ?_
    rintro e w' ⟨rfl, rfl⟩
    go_wp2_with fail
    refine (sIn_f m 1 400000000 _ hm').mono ?_
    rintro e w' ⟨rfl, rfl⟩
    go_wp2_with fail
    go_ret
    exact ⟨by rw [E.out]; rfl, B.out⟩
  by_cases hg : d.gcd m = 1
  rotate_left
  · have E : Hid (imB n d a m = false) := imB_no (.inl (imA_gcd hg))
    have n0 : (((d.gcd m : Nat) : Int) != 1) = true := by simp; omega
    go_enter Try.func14, Try.ntmps14
    go_wp2_with fail
    refine (sIsRat n d _).mono ?_
    rintro e w1 ⟨rfl, hb⟩
    have K0 : Hid (Blk2 w1 w.heap.size 25 (.int .i64 n) (.int .i64 d)) := (Blk2.at_ _ _ _ rfl).keep hb (by simp <;> omega)
    have B : Hid (Below w.heap.size w w1) := Below.trans (by repeat (first | exact Below.refl _ _ | refine Below.alloc ?_ (by simp <;> omega) _)) (hb.mono (by simp <;> omega))
    obtain ⟨K0a, K0b, K0c, K0d⟩ := K0.out.all
    clear hb
    rw [hr]
    go_wp2_with fail
    refine (sIsNum_t a _ ha.1 ha.2).mono ?_
    rintro e w' ⟨rfl, rfl⟩
    go_wp2_with fail
    refine (sIn_t m 1 400000000 _ hm.1 hm.2).mono ?_
    rintro e w' ⟨rfl, rfl⟩
    go_wp2_with fail
    refine (sGcd d m _ ⟨by omega, r2⟩ ⟨by omega, hm.2⟩).mono ?_
    rintro e w' ⟨rfl, k, rfl⟩
    generalize ((d.gcd m : Nat) : Int) = gg at n0 ⊢
    go_wp2_with fail
    go_ret
    exact ⟨by rw [E.out]; rfl, below_drewN B.out _⟩
  have g1 : ((d.gcd m : Nat) : Int) = 1 := by rw [hg]; rfl
  have E : Hid (∀ b, b = decide ((a % m * (d % m) - n) % m = 0) → imB n d a m = b) := fun b hb => imB_eq (imA_true hr hm hg) ha hb
  obtain ⟨⟨y0, y1⟩, ⟨z0, z1⟩, q0, q1⟩ := res_size hm a d
  have d0 : Int.tmod d m = d % m := Int.tmod_eq_emod_of_nonneg (by omega)
  have MY : Hid (∀ w', Calls Try.prog 29 #[.int .i64 a, .int .i64 m] w' fun e w2 => e = .returned (.int .i64 (a % m)) ∧ w' = w2) := fun w' => sMod a m w' (by omega) (by omega)
  obtain ⟨y, hy⟩ : ∃ y, a % m = y := ⟨_, rfl⟩
  obtain ⟨z, hz⟩ : ∃ z, d % m = z := ⟨_, rfl⟩
  rw [hy] at y0 y1 q0 q1 E MY
  rw [hz] at z0 z1 q0 q1 d0 E
  have MZ : Hid (∀ w', Calls Try.prog 29 #[.int .i64 (y * z - n), .int .i64 m] w' fun e w2 => e = .returned (.int .i64 ((y * z - n) % m)) ∧ w' = w2) := fun w' => sMod (y * z - n) m w' (by omega) (by omega)
  have n1 : (m == 0) = false := by simp; omega
  clear hy hz hg
  go_enter Try.func14, Try.ntmps14
  go_wp2_with fail
  refine (sIsRat n d _).mono ?_
  rintro e w1 ⟨rfl, hb⟩
  have K0 : Hid (Blk2 w1 w.heap.size 25 (.int .i64 n) (.int .i64 d)) := (Blk2.at_ _ _ _ rfl).keep hb (by simp <;> omega)
  have B : Hid (Below w.heap.size w w1) := Below.trans (by repeat (first | exact Below.refl _ _ | refine Below.alloc ?_ (by simp <;> omega) _)) (hb.mono (by simp <;> omega))
  obtain ⟨K0a, K0b, K0c, K0d⟩ := K0.out.all
  clear hb
  rw [hr]
  go_wp2_with fail
  refine (sIsNum_t a _ ha.1 ha.2).mono ?_
  rintro e w' ⟨rfl, rfl⟩
  go_wp2_with fail
  refine (sIn_t m 1 400000000 _ hm.1 hm.2).mono ?_
  rintro e w' ⟨rfl, rfl⟩
  go_wp2_with fail
  refine (sGcd d m _ ⟨by omega, r2⟩ ⟨by omega, hm.2⟩).mono ?_
  rintro e w' ⟨rfl, k, rfl⟩
  rw [g1]
  have K0 : Hid (Blk2 (w1.drewN k) w.heap.size 25 (.int .i64 n) (.int .i64 d)) := K0.out.drewN k
  obtain ⟨K1a, K1b, K1c, K1d⟩ := K0.out.all
  go_wp2_with fail
  go_quiet ((first | (with_reducible refine (MY.out _).mono ?_; rintro e wq ⟨rfl, rfl⟩; exact ⟨rfl, _, rfl⟩) | (with_reducible refine (MZ.out _).mono ?_; rintro e wq ⟨rfl, rfl⟩; exact ⟨rfl, _, rfl⟩)))
  go_wp2_with fail
  go_ret
  exact ⟨by rw [E.out ((y * z - n) % m == 0) rfl]; rfl, below_drewN (below_drewN B.out _) _⟩
set_option maxHeartbeats 1000000 in
theorem sResidue (n d m : Int) (w : World) : Calls Try.prog 10 #[.agg #[.int .i64 n, .int .i64 d], .int .i64 m] w (Gives (.tuple #[.int .i64 (rsX n d m).1, .bool (rsX n d m).2]) w) := by
  rcases Bool.eq_false_or_eq_true (isRat n d) with hr | hr
  rotate_left
  · have E : Hid (rsX n d m = (0, false)) := rsX_no (imA_rat hr)
    go_enter Try.func10, Try.ntmps10
    go_wp2_with fail
    refine (sIsRat n d _).mono ?_
    rintro e w1 ⟨rfl, hb⟩
    have B : Hid (Below w.heap.size w w1) := Below.trans (by repeat (first | exact Below.refl _ _ | refine Below.alloc ?_ (by simp <;> omega) _)) (hb.mono (by simp <;> omega))
    clear hb
    rw [hr]
    go_wp2_with fail
    rw [E.out]
    exact bodyPost_ret (v := .tuple #[.int .i64 0, .bool false]) (by simp [results, Try.results10, go_sem]) rfl ⟨rfl, B.out⟩
  have pr : IsRatP n d := of_decide_eq_true hr
  obtain ⟨r1, r2, r3, r4, -⟩ := pr
  by_cases hm : 1 ≤ m ∧ m ≤ 400000000
  rotate_left
  · have E : Hid (rsX n d m = (0, false)) := rsX_no (imA_mod hm)
    have hm' : m < 1 ∨ 400000000 < m := by omega
    clear hm
    go_enter Try.func10, Try.ntmps10
    go_wp2_with fail
    refine (sIsRat n d _).mono ?_
    rintro e w1 ⟨rfl, hb⟩
    have B : Hid (Below w.heap.size w w1) := Below.trans (by repeat (first | exact Below.refl _ _ | refine Below.alloc ?_ (by simp <;> omega) _)) (hb.mono (by simp <;> omega))
    clear hb
    rw [hr]
    go_wp2_with fail
    refine (sIn_f m 1 400000000 _ hm').mono ?_
    rintro e w' ⟨rfl, rfl⟩
    go_wp2_with fail
    rw [E.out]
    exact bodyPost_ret (v := .tuple #[.int .i64 0, .bool false]) (by simp [results, Try.results10, go_sem]) rfl ⟨rfl, B.out⟩
  by_cases hg : d.gcd m = 1
  rotate_left
  · have E : Hid (rsX n d m = (0, false)) := rsX_no (imA_gcd hg)
    have n0 : (((d.gcd m : Nat) : Int) != 1) = true := by simp; omega
    go_enter Try.func10, Try.ntmps10
    go_wp2_with fail
    refine (sIsRat n d _).mono ?_
    rintro e w1 ⟨rfl, hb⟩
    have K0 : Hid (Blk2 w1 w.heap.size 25 (.int .i64 n) (.int .i64 d)) := (Blk2.at_ _ _ _ rfl).keep hb (by simp <;> omega)
    have B : Hid (Below w.heap.size w w1) := Below.trans (by repeat (first | exact Below.refl _ _ | refine Below.alloc ?_ (by simp <;> omega) _)) (hb.mono (by simp <;> omega))
    obtain ⟨K0a, K0b, K0c, K0d⟩ := K0.out.all
    clear hb
    rw [hr]
    go_wp2_with fail
    refine (sIn_t m 1 400000000 _ hm.1 hm.2).mono ?_
    rintro e w' ⟨rfl, rfl⟩
    go_wp2_with fail
    refine (sGcd d m _ ⟨by omega, r2⟩ ⟨by omega, hm.2⟩).mono ?_
    rintro e w' ⟨rfl, k, rfl⟩
    generalize ((d.gcd m : Nat) : Int) = gg at n0 ⊢
    go_wp2_with fail
    rw [E.out]
    exact bodyPost_ret (v := .tuple #[.int .i64 0, .bool false]) (by simp [results, Try.results10, go_sem]) rfl ⟨rfl, below_drewN B.out _⟩
  have g1 : ((d.gcd m : Nat) : Int) = 1 := by rw [hg]; rfl
  have y0 := Int.emod_nonneg d (show m ≠ 0 by omega)
  have y1 := Int.emod_lt_of_pos d (show 0 < m by omega)
  obtain ⟨x, z, hx, he, b1, b2, -, -⟩ := egAns_is (d % m) m ⟨by omega, by omega⟩ ⟨by omega, hm.2⟩
  have E := Lib.hid (rsX_ext (x := x) (y := z) (imA_true hr hm hg) he rfl)
  have HX : Hid (egVal (egAns (d % m) m) = .tuple #[.int .i64 ((d % m).gcd m : Nat), .int .i64 x, .int .i64 z, .bool true]) := by show _ = _; rw [hx]; rfl
  obtain ⟨⟨u0, u1⟩, ⟨v0, v1⟩, q0, q1⟩ := res_size hm x n
  have MX : Hid (∀ w', Calls Try.prog 29 #[.int .i64 x, .int .i64 m] w' fun e w2 => e = .returned (.int .i64 (x % m)) ∧ w' = w2) := fun w' => sMod x m w' (by omega) (by omega)
  have MN : Hid (∀ w', Calls Try.prog 29 #[.int .i64 n, .int .i64 m] w' fun e w2 => e = .returned (.int .i64 (n % m)) ∧ w' = w2) := fun w' => sMod n m w' (by omega) (by omega)
  have d0 : Int.tmod d m = d % m := Int.tmod_eq_emod_of_nonneg (by omega)
  obtain ⟨y, hy⟩ : ∃ y, d % m = y := ⟨_, rfl⟩
  obtain ⟨u, hu⟩ : ∃ u, x % m = u := ⟨_, rfl⟩
  obtain ⟨v, hv⟩ : ∃ v, n % m = v := ⟨_, rfl⟩
  rw [hy] at y0 y1 d0 HX
  rw [hu] at u0 u1 q0 q1 MX E
  rw [hv] at v0 v1 q0 q1 MN E
  have MZ : Hid (∀ w', Calls Try.prog 29 #[.int .i64 (u * v), .int .i64 m] w' fun e w2 => e = .returned (.int .i64 (u * v % m)) ∧ w' = w2) := fun w' => sMod (u * v) m w' (by omega) (by omega)
  have n1 : (m == 0) = false := by simp; omega
  generalize (((y.gcd m : Nat)) : Int) = gg at HX
  clear hy hu hv hg hx he
  go_enter Try.func10, Try.ntmps10
  go_wp2_with fail
  refine (sIsRat n d _).mono ?_
  rintro e w1 ⟨rfl, hb⟩
  have K0 : Hid (Blk2 w1 w.heap.size 25 (.int .i64 n) (.int .i64 d)) := (Blk2.at_ _ _ _ rfl).keep hb (by simp <;> omega)
  have B : Hid (Below w.heap.size w w1) := Below.trans (by repeat (first | exact Below.refl _ _ | refine Below.alloc ?_ (by simp <;> omega) _)) (hb.mono (by simp <;> omega))
  obtain ⟨K0a, K0b, K0c, K0d⟩ := K0.out.all
  clear hb
  rw [hr]
  go_wp2_with fail
  refine (sIn_t m 1 400000000 _ hm.1 hm.2).mono ?_
  rintro e w' ⟨rfl, rfl⟩
  go_wp2_with fail
  refine (sGcd d m _ ⟨by omega, r2⟩ ⟨by omega, hm.2⟩).mono ?_
  rintro e w' ⟨rfl, k, rfl⟩
  rw [g1]
  have K0 : Hid (Blk2 (w1.drewN k) w.heap.size 25 (.int .i64 n) (.int .i64 d)) := K0.out.drewN k
  obtain ⟨K1a, K1b, K1c, K1d⟩ := K0.out.all
  go_wp2_with fail
  refine (sExt y m _ ⟨by omega, by omega⟩ ⟨by omega, hm.2⟩).mono ?_
  rintro e w' ⟨rfl, k2, rfl⟩
  rw [HX.out]
  have K0 : Hid (Blk2 (w1.drewN (k + k2)) w.heap.size 25 (.int .i64 n) (.int .i64 d)) := K0.out.drewN k2
  obtain ⟨K2a, K2b, K2c, K2d⟩ := K0.out.all
  go_wp2_with fail
  go_quiet ((first | (with_reducible refine (MX.out _).mono ?_; rintro e wq ⟨rfl, rfl⟩; exact ⟨rfl, _, rfl⟩) | (with_reducible refine (MN.out _).mono ?_; rintro e wq ⟨rfl, rfl⟩; exact ⟨rfl, _, rfl⟩) | (with_reducible refine (MZ.out _).mono ?_; rintro e wq ⟨rfl, rfl⟩; exact ⟨rfl, _, rfl⟩)))
  go_wp2_with fail
  rw [E.out]
  exact bodyPost_ret (v := .tuple #[.int .i64 (u * v % m), .bool true]) (by simp [results, Try.results10, go_sem]) rfl ⟨rfl, below_drewN (below_drewN B.out _) _⟩
end Go.Proofs.Ytkphlfcbinjknaa
