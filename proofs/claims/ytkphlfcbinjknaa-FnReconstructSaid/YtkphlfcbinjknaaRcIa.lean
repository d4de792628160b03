/-
  Chapter 10, in the program: IsImage and ResidueOf.
-/
import Derived.Test.YtkphlfcbinjknaaReL
import Derived.Test.YtkphlfcbinjknaaRatI2
import Derived.Test.YtkphlfcbinjknaaNumIDiv
import Derived.Test.YtkphlfcbinjknaaNumExt
import Derived.BigQuiet
import Derived.Deep.QuietTactic
namespace Go.Proofs.Ytkphlfcbinjknaa
set_option maxRecDepth 100000
open Go.RowKit

theorem tmod_zero {y m : Int} : (Int.tmod y m == 0) = decide (y % m = 0) := by
  rw [Bool.eq_iff_iff]
  simp only [beq_iff_eq, decide_eq_true_eq]
  exact ⟨fun h => Int.emod_eq_zero_of_dvd (Int.dvd_of_tmod_eq_zero h), fun h => Int.tmod_eq_zero_of_dvd (Int.dvd_of_emod_eq_zero h)⟩
/-- As the extended divisor of the denominator and the modulus finds the residue. -/
theorem rsX_ext2 {n d m x y : Int} (h : imA n d m = true) (he : d * x + m * y = 1) : rsX n d m = (n % m * (x % m) % m, true) := by
  obtain ⟨-, h2, h3⟩ := imA_says h
  have hi : ImgP n d (x % m * (n % m) % m) m := by
    refine img_of (y := y + d / m * x) (g := 1) ?_ rfl
    rw [Int.emod_def]
    generalize d / m = q
    grind
  rw [Int.mul_comm (n % m)]
  exact rsX_yes h ⟨Int.emod_nonneg _ (by omega), Int.emod_lt_of_pos _ (by omega)⟩ hi
theorem iIsMod_t (m : Int) (w : World) (h1 : 1 ≤ m) (h2 : m ≤ 400000000) : Calls Try.prog 23 #[.int .i64 m] w fun e w' => e = .returned (.bool true) ∧ w = w' := by
  go_enter Try.func23, Try.ntmps23
  go_wp2
  go_ret
  exact ⟨rfl, rfl⟩
theorem iIsMod_f (m : Int) (w : World) (h : m < 1 ∨ 400000000 < m) : Calls Try.prog 23 #[.int .i64 m] w fun e w' => e = .returned (.bool false) ∧ w = w' := by
  rcases h with h | h
  · go_enter Try.func23, Try.ntmps23
    go_wp2
    go_ret
    exact ⟨rfl, rfl⟩
  · have h1 : 1 ≤ m := by omega
    have h2 : decide (m ≤ 400000000) = false := by simp; omega
    go_enter Try.func23, Try.ntmps23
    go_wp2
    go_ret
    exact ⟨rfl, rfl⟩
set_option maxHeartbeats 1000000 in
theorem iImage (n d a m : Int) (w : World) : Calls Try.prog 11 #[.agg #[.int .i64 n, .int .i64 d], .int .i64 a, .int .i64 m] w (Gives (.bool (imB n d a m)) w) := by
  rcases Bool.eq_false_or_eq_true (isRat n d) with hr | hr
  rotate_left
  · have E : Hid (imB n d a m = false) := imB_no (.inl (imA_rat hr))
    go_enter Try.func11, Try.ntmps11
    go_wp2_with fail
    refine (iIsRat n d _).mono ?_
    rintro e w1 ⟨rfl, hb⟩
    have B : Hid (Below w.heap.size w w1) := Below.trans (by repeat (first | exact Below.refl _ _ | refine Below.alloc ?_ (by simp <;> omega) _)) (hb.mono (by simp <;> omega))
    clear hb
    rw [hr]
    go_wp2_with fail
    go_ret
    exact ⟨by rw [E.out]; rfl, B.out⟩
  have pr : IsRatP n d := of_decide_eq_true hr
  obtain ⟨r1, r2, r3, r4, -⟩ := pr
  by_cases ha : NumP a
  rotate_left
  · have E : Hid (imB n d a m = false) := imB_no (.inr ha)
    have ha' : a < -400000000 ∨ 400000000 < a := by unfold NumP at ha; omega
    clear ha
    go_enter Try.func11, Try.ntmps11
    go_wp2_with fail
    refine (iIsRat n d _).mono ?_
    rintro e w1 ⟨rfl, hb⟩
    have B : Hid (Below w.heap.size w w1) := Below.trans (by repeat (first | exact Below.refl _ _ | refine Below.alloc ?_ (by simp <;> omega) _)) (hb.mono (by simp <;> omega))
    clear hb
    rw [hr]
    go_wp2_with fail
    refine (iIsNum_f a _ ha').mono ?_
    rintro e w' ⟨rfl, rfl⟩
    go_wp2_with fail
    go_ret
    exact ⟨by rw [E.out]; rfl, B.out⟩
  by_cases hm : 1 ≤ m ∧ m ≤ 400000000
  rotate_left
  · have E : Hid (imB n d a m = false) := imB_no (.inl (imA_mod hm))
    have hm' : m < 1 ∨ 400000000 < m := by omega
    clear hm
    go_enter Try.func11, Try.ntmps11
    go_wp2_with fail
    refine (iIsRat n d _).mono ?_
    rintro e w1 ⟨rfl, hb⟩
    have B : Hid (Below w.heap.size w w1) := Below.trans (by repeat (first | exact Below.refl _ _ | refine Below.alloc ?_ (by simp <;> omega) _)) (hb.mono (by simp <;> omega))
    clear hb
    rw [hr]
    go_wp2_with fail
    refine (iIsNum_t a _ ha.1 ha.2).mono ?_
    rintro e w' ⟨rfl, rfl⟩
    go_wp2_with fail
    refine (iIsMod_f m _ hm').mono ?_
    rintro e w' ⟨rfl, rfl⟩
    go_wp2_with fail
    go_ret
    exact ⟨by rw [E.out]; rfl, B.out⟩
  by_cases hg : d.gcd m = 1
  rotate_left
  · have E : Hid (imB n d a m = false) := imB_no (.inl (imA_gcd hg))
    have n0 : (((d.gcd m : Nat) : Int) != 1) = true := by simp; omega
    go_enter Try.func11, Try.ntmps11
    go_wp2_with fail
    refine (iIsRat n d _).mono ?_
    rintro e w1 ⟨rfl, hb⟩
    have K0 : Hid (Blk2 w1 w.heap.size 25 (.int .i64 n) (.int .i64 d)) := (Blk2.at_ _ _ _ rfl).keep hb (by simp <;> omega)
    have B : Hid (Below w.heap.size w w1) := Below.trans (by repeat (first | exact Below.refl _ _ | refine Below.alloc ?_ (by simp <;> omega) _)) (hb.mono (by simp <;> omega))
    obtain ⟨K0a, K0b, K0c, K0d⟩ := K0.out.all
    clear hb
    rw [hr]
    go_wp2_with fail
    refine (iIsNum_t a _ ha.1 ha.2).mono ?_
    rintro e w' ⟨rfl, rfl⟩
    go_wp2_with fail
    refine (iIsMod_t m _ hm.1 hm.2).mono ?_
    rintro e w' ⟨rfl, rfl⟩
    go_wp2_with fail
    refine (iGcd d m _ ⟨by omega, r2⟩ ⟨by omega, hm.2⟩).mono ?_
    rintro e w' ⟨rfl, k, rfl⟩
    generalize ((d.gcd m : Nat) : Int) = gg at n0 ⊢
    go_wp2_with fail
    go_ret
    exact ⟨by rw [E.out]; rfl, below_drewN B.out _⟩
  have g1 : ((d.gcd m : Nat) : Int) = 1 := by rw [hg]; rfl
  have E : Hid (∀ b, b = decide ((a * d - n) % m = 0) → imB n d a m = b) := fun b hb => imB_eq2 (imA_true hr hm hg) ha hb
  have MA := mul_abs (a := a) (b := d) (A := 400000000) (B := 400000000) ⟨ha.1, ha.2⟩ ⟨by omega, r2⟩
  have v0 : IntKind.i64.wrap (a * d) = a * d := IntWalk.i64_in _ (by omega)
  obtain ⟨y, hy⟩ : ∃ y, a * d = y := ⟨_, rfl⟩
  rw [hy] at MA E
  have v1 : IntKind.i64.wrap (a * d) = y := v0.trans hy
  clear v0
  obtain ⟨y1, y2⟩ := MA
  have T : Hid ((Int.tmod (y - n) m == 0) = decide ((y - n) % m = 0)) := tmod_zero
  obtain ⟨t, ht⟩ : ∃ t, y - n = t := ⟨_, rfl⟩
  have v2 : IntKind.i64.wrap (y - n) = t := (IntWalk.i64_in _ (by omega)).trans ht
  rw [ht] at T E
  have t1 : -200000000000000000 ≤ t := by omega
  have t2 : t ≤ 200000000000000000 := by omega
  have n1 : (m == 0) = false := by simp; omega
  clear hy hg ht
  go_enter Try.func11, Try.ntmps11
  go_wp2_with fail
  refine (iIsRat n d _).mono ?_
  rintro e w1 ⟨rfl, hb⟩
  have K0 : Hid (Blk2 w1 w.heap.size 25 (.int .i64 n) (.int .i64 d)) := (Blk2.at_ _ _ _ rfl).keep hb (by simp <;> omega)
  have B : Hid (Below w.heap.size w w1) := Below.trans (by repeat (first | exact Below.refl _ _ | refine Below.alloc ?_ (by simp <;> omega) _)) (hb.mono (by simp <;> omega))
  obtain ⟨K0a, K0b, K0c, K0d⟩ := K0.out.all
  clear hb
  rw [hr]
  go_wp2_with fail
  refine (iIsNum_t a _ ha.1 ha.2).mono ?_
  rintro e w' ⟨rfl, rfl⟩
  go_wp2_with fail
  refine (iIsMod_t m _ hm.1 hm.2).mono ?_
  rintro e w' ⟨rfl, rfl⟩
  go_wp2_with fail
  refine (iGcd d m _ ⟨by omega, r2⟩ ⟨by omega, hm.2⟩).mono ?_
  rintro e w' ⟨rfl, k, rfl⟩
  rw [g1]
  have K0 : Hid (Blk2 (w1.drewN k) w.heap.size 25 (.int .i64 n) (.int .i64 d)) := K0.out.drewN k
  obtain ⟨K1a, K1b, K1c, K1d⟩ := K0.out.all
  go_wp2_with fail
  go_ret
  exact ⟨by rw [E.out _ T.out]; rfl, below_drewN B.out _⟩
set_option maxHeartbeats 1000000 in
theorem iResidue (n d m : Int) (w : World) : Calls Try.prog 9 #[.agg #[.int .i64 n, .int .i64 d], .int .i64 m] w (Gives (.tuple #[.int .i64 (rsX n d m).1, .bool (rsX n d m).2]) w) := by
  by_cases hN : (-400000000 ≤ d ∧ d ≤ 400000000) ∧ (-400000000 ≤ m ∧ m ≤ 400000000)
  rotate_left
  · have E : Hid (rsX n d m = (0, false)) := by
      apply rsX_no
      cases h : imA n d m with
      | false => rfl
      | true => exact absurd ⟨(imA_size h).2.2.1, (imA_size h).2.2.2⟩ hN
    go_enter Try.func9, Try.ntmps9
    go_wp2_with fail
    refine (iExt_f d m _ hN).mono ?_
    rintro e w1 ⟨rfl, rfl⟩
    clear hN
    go_wp2_with fail
    rw [E.out]
    exact bodyPost_ret (v := .tuple #[.int .i64 0, .bool false]) (by simp [results, Try.results9, go_sem]) rfl ⟨rfl, by repeat (first | exact Below.refl _ _ | refine Below.alloc ?_ (by simp <;> omega) _)⟩
  obtain ⟨hd, hm⟩ := hN
  obtain ⟨x, z, hx, he, b1, b2, -, -⟩ := egAns_is d m hd hm
  have HX : Hid (egVal (egAns d m) = .tuple #[.int .i64 (d.gcd m : Nat), .int .i64 x, .int .i64 z, .bool true]) := by show _ = _; rw [hx]; rfl
  by_cases hg : d.gcd m = 1
  rotate_left
  · have E : Hid (rsX n d m = (0, false)) := rsX_no (imA_gcd hg)
    have n0 : (((d.gcd m : Nat) : Int) != 1) = true := by simp; omega
    clear hx he hg
    generalize ((d.gcd m : Nat) : Int) = gg at n0 HX
    go_enter Try.func9, Try.ntmps9
    go_wp2_with fail
    refine (iExt d m _ hd hm).mono ?_
    rintro e w1 ⟨rfl, hb⟩
    have B : Hid (Below w.heap.size w w1) := Below.trans (by repeat (first | exact Below.refl _ _ | refine Below.alloc ?_ (by simp <;> omega) _)) (hb.mono (by simp <;> omega))
    clear hb
    rw [HX.out]
    go_wp2_with fail
    rw [E.out]
    exact bodyPost_ret (v := .tuple #[.int .i64 0, .bool false]) (by simp [results, Try.results9, go_sem]) rfl ⟨rfl, B.out⟩
  have g1 : ((d.gcd m : Nat) : Int) = 1 := by rw [hg]; rfl
  rw [g1] at HX he
  clear hx
  rcases Bool.eq_false_or_eq_true (isRat n d) with hr | hr
  rotate_left
  · have E : Hid (rsX n d m = (0, false)) := rsX_no (imA_rat hr)
    clear hg g1 he
    go_enter Try.func9, Try.ntmps9
    go_wp2_with fail
    refine (iExt d m _ hd hm).mono ?_
    rintro e w1 ⟨rfl, hb⟩
    have K0 : Hid (Blk2 w1 w.heap.size 25 (.int .i64 n) (.int .i64 d)) := (Blk2.at_ _ _ _ rfl).keep hb (by simp <;> omega)
    have B : Hid (Below w.heap.size w w1) := Below.trans (by repeat (first | exact Below.refl _ _ | refine Below.alloc ?_ (by simp <;> omega) _)) (hb.mono (by simp <;> omega))
    obtain ⟨K0a, K0b, K0c, K0d⟩ := K0.out.all
    clear hb
    rw [HX.out]
    go_wp2_with fail
    refine (iIsRat n d _).mono ?_
    rintro e w2 ⟨rfl, hb⟩
    have B := Lib.hid (B.out.trans (hb.mono B.out.size))
    clear hb
    rw [hr]
    go_wp2_with fail
    rw [E.out]
    exact bodyPost_ret (v := .tuple #[.int .i64 0, .bool false]) (by simp [results, Try.results9, go_sem]) rfl ⟨rfl, B.out⟩
  have pr : IsRatP n d := of_decide_eq_true hr
  obtain ⟨r1, r2, r3, r4, -⟩ := pr
  by_cases hm1 : 1 ≤ m ∧ m ≤ 400000000
  rotate_left
  · have E : Hid (rsX n d m = (0, false)) := rsX_no (imA_mod hm1)
    have hm' : m < 1 ∨ 400000000 < m := by omega
    clear hg g1 he hm1
    go_enter Try.func9, Try.ntmps9
    go_wp2_with fail
    refine (iExt d m _ hd hm).mono ?_
    rintro e w1 ⟨rfl, hb⟩
    have K0 : Hid (Blk2 w1 w.heap.size 25 (.int .i64 n) (.int .i64 d)) := (Blk2.at_ _ _ _ rfl).keep hb (by simp <;> omega)
    have B : Hid (Below w.heap.size w w1) := Below.trans (by repeat (first | exact Below.refl _ _ | refine Below.alloc ?_ (by simp <;> omega) _)) (hb.mono (by simp <;> omega))
    obtain ⟨K0a, K0b, K0c, K0d⟩ := K0.out.all
    clear hb
    rw [HX.out]
    go_wp2_with fail
    refine (iIsRat n d _).mono ?_
    rintro e w2 ⟨rfl, hb⟩
    have B := Lib.hid (B.out.trans (hb.mono B.out.size))
    clear hb
    rw [hr]
    go_wp2_with fail
    refine (iIsMod_f m _ hm').mono ?_
    rintro e w' ⟨rfl, rfl⟩
    go_wp2_with fail
    rw [E.out]
    exact bodyPost_ret (v := .tuple #[.int .i64 0, .bool false]) (by simp [results, Try.results9, go_sem]) rfl ⟨rfl, B.out⟩
  have E := Lib.hid (rsX_ext2 (imA_true hr hm1 hg) he)
  have u0 := Int.emod_nonneg x (show m ≠ 0 by omega)
  have u1 := Int.emod_lt_of_pos x (show 0 < m by omega)
  have y0 := Int.emod_nonneg n (show m ≠ 0 by omega)
  have y1 := Int.emod_lt_of_pos n (show 0 < m by omega)
  have q0 := Int.mul_nonneg y0 u0
  have q1 := (mul_abs (a := n % m) (b := x % m) (A := 400000000) (B := 400000000) (by omega) (by omega)).2
  have DX : Hid (∀ w', Calls Try.prog 24 #[.int .i64 x, .int .i64 m] w' fun e w2 => e = .returned (.tuple #[.int .i64 (x / m), .int .i64 (x % m), .bool true]) ∧ ∃ k, w2 = w'.drewN k) := fun w' => iDiv x m w' b1 b2 hm.1 hm.2 (by omega)
  have DN : Hid (∀ w', Calls Try.prog 24 #[.int .i64 n, .int .i64 m] w' fun e w2 => e = .returned (.tuple #[.int .i64 (n / m), .int .i64 (n % m), .bool true]) ∧ ∃ k, w2 = w'.drewN k) := fun w' => iDiv n m w' r3 r4 hm.1 hm.2 (by omega)
  have n1 : (m == 0) = false := by simp; omega
  generalize x % m = u at u0 u1 q0 q1 E DX
  generalize n % m = v at y0 y1 q0 q1 E DN
  generalize x / m = xq at DX
  generalize n / m = nq at DN
  obtain ⟨z, hz⟩ : ∃ z, v * u = z := ⟨_, rfl⟩
  rw [hz] at q0 q1 E
  have v1 : IntKind.i64.wrap (v * u) = z := (IntWalk.i64_in _ (by omega)).trans hz
  have t1 : Int.tmod z m = z % m := Int.tmod_eq_emod_of_nonneg q0
  clear hg g1 he hz
  go_enter Try.func9, Try.ntmps9
  go_wp2_with fail
  refine (iExt d m _ hd hm).mono ?_
  rintro e w1 ⟨rfl, hb⟩
  have K0 : Hid (Blk2 w1 w.heap.size 25 (.int .i64 n) (.int .i64 d)) := (Blk2.at_ _ _ _ rfl).keep hb (by simp <;> omega)
  have B : Hid (Below w.heap.size w w1) := Below.trans (by repeat (first | exact Below.refl _ _ | refine Below.alloc ?_ (by simp <;> omega) _)) (hb.mono (by simp <;> omega))
  obtain ⟨K0a, K0b, K0c, K0d⟩ := K0.out.all
  clear hb
  rw [HX.out]
  go_wp2_with fail
  refine (iIsRat n d _).mono ?_
  rintro e w2 ⟨rfl, hb⟩
  have K0 := Lib.hid (K0.out.keep hb K0.out.lt)
  have B := Lib.hid (B.out.trans (hb.mono B.out.size))
  obtain ⟨K1a, K1b, K1c, K1d⟩ := K0.out.all
  clear hb
  rw [hr]
  go_wp2_with fail
  refine (iIsMod_t m _ hm1.1 hm1.2).mono ?_
  rintro e w' ⟨rfl, rfl⟩
  go_wp2_with fail
  refine (DX.out _).mono ?_
  rintro e w' ⟨rfl, k, rfl⟩
  have K0 := Lib.hid (K0.out.drewN k)
  obtain ⟨K2a, K2b, K2c, K2d⟩ := K0.out.all
  go_wp2_with fail
  refine (DN.out _).mono ?_
  rintro e w' ⟨rfl, k2, rfl⟩
  go_wp2_with fail
  rw [E.out]
  exact bodyPost_ret (v := .tuple #[.int .i64 (z % m), .bool true]) (by simp [results, Try.results9, go_sem]) rfl ⟨rfl, below_drewN B.out _⟩
end Go.Proofs.Ytkphlfcbinjknaa
