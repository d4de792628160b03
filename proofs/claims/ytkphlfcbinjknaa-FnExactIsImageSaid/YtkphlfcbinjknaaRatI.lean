/-
  Chapter 2, in the program: lowest terms, MakeRatio, IsRatio.
-/
import Derived.Test.YtkphlfcbinjknaaNumGD
import Derived.Test.YtkphlfcbinjknaaRatS
import Derived.Deep.RegionWith
namespace Go.Proofs.Ytkphlfcbinjknaa
open Go.RowKit

set_option maxHeartbeats 400000 in
theorem iLow (n d : Int) (w : World) (hn : -2000000000000000000 ≤ n ∧ n ≤ 2000000000000000000) (hd : -2000000000000000000 ≤ d ∧ d ≤ 2000000000000000000) (hd0 : d ≠ 0) :
    Calls Try.prog 43 #[.agg #[.int .i64 n, .int .i64 d]] w (Gives (ratV (low n d)) w) := by
  have hz : (d == 0) = false := by simpa using hd0
  obtain ⟨G, hG, hG0⟩ : ∃ G : Nat, Int.gcd n d = G ∧ 0 < G := ⟨_, rfl, gcd_pos_of n d hd0⟩
  -- the divisor with the sign of d
  obtain ⟨k, hk, hk0, hk1, LN, LD⟩ : ∃ k : Int, (k = if d < 0 then -(G : Int) else G) ∧ (k == 0) = false ∧ (k ≠ 0) ∧ lowN n d = n.tdiv k ∧ lowD n d = d.tdiv k := by
    refine ⟨_, rfl, ?_, ?_, ?_, ?_⟩
    · split <;> (simp; omega)
    · split <;> omega
    · unfold lowN; rw [hG]; split <;> simp [Int.tdiv_neg]
    · unfold lowD; rw [hG]; split <;> simp [Int.tdiv_neg]
  obtain ⟨bn1, bn2⟩ := tdiv_bdw n k (by omega) (by omega)
  obtain ⟨bd1, bd2⟩ := tdiv_bdw d k (by omega) (by omega)
  have hG9 : (G : Int) ≤ 2000000000000000000 := by
    have := Int.le_of_dvd (show (0 : Int) < d.natAbs by omega) (Int.dvd_natAbs.2 (Int.gcd_dvd_right (a := n) (b := d)))
    rw [hG] at this; omega
  have HG := Lib.hid hG
  clear hG
  have L1 := Lib.hid LN
  have L2 := Lib.hid LD
  clear LN LD
  by_cases hs : d < 0
  · rw [if_pos hs] at hk
    have HK := Lib.hid hk
    have hs' : decide (d < 0) = true := by simpa using hs
    clear hk
    go_enter Try.func43, Try.ntmps43
    go_wp2_with fail
    refine (iGD n d _ (by omega) (by omega)).mono ?_
    rintro e w' ⟨rfl, m, rfl⟩
    rw [HG.out]
    go_wp2_with fail
    rw [← HK.out]
    go_quiet (fail)
    go_wp2_with fail
    by_cases h1 : -400000000 ≤ n.tdiv k ∧ n.tdiv k ≤ 400000000
    · refine (iIsNum_t _ _ h1.1 h1.2).mono ?_
      rintro e w' ⟨rfl, rfl⟩
      go_wp2_with fail
      by_cases h2 : -400000000 ≤ d.tdiv k ∧ d.tdiv k ≤ 400000000
      · have L : Hid (low n d = (n.tdiv k, d.tdiv k)) := by
          have := (low_fits (n := n) (d := d) hd0 (by rw [L1.out, L2.out]; exact ⟨h1.1, h1.2, h2.1, h2.2⟩)).1
          rw [L1.out, L2.out] at this; exact this
        refine (iIsNum_t _ _ h2.1 h2.2).mono ?_
        rintro e w' ⟨rfl, rfl⟩
        go_wp2_with fail
        refine bodyPost_ret (v := ratV (n.tdiv k, d.tdiv k)) (by simp [results, Try.results43, go_sem, ratV]) rfl ⟨by rw [L.out], ?_⟩
        repeat (first | exact Below.refl _ _ | refine below_drewN ?_ _ | refine Below.setCell ?_ (by simp) _ | refine Below.alloc ?_ (by simp) _ | (refine Below.alloc ?_ (by simp; omega) _))
      · have L : Hid (low n d = (0, 0)) := low_none (by rw [L1.out, L2.out]; exact fun k => h2 ⟨k.2.2.1, k.2.2.2⟩)
        refine (iIsNum_f _ _ (by omega)).mono ?_
        rintro e w' ⟨rfl, rfl⟩
        clear h2
        go_wp2_with fail
        refine bodyPost_ret (v := ratV (0, 0)) (by simp [results, Try.results43, go_sem, ratV]) rfl ⟨by rw [L.out], ?_⟩
        repeat (first | exact Below.refl _ _ | refine below_drewN ?_ _ | refine Below.setCell ?_ (by simp) _ | refine Below.alloc ?_ (by simp) _ | (refine Below.alloc ?_ (by simp; omega) _))
    · have L : Hid (low n d = (0, 0)) := low_none (by rw [L1.out, L2.out]; exact fun k => h1 ⟨k.1, k.2.1⟩)
      refine (iIsNum_f _ _ (by omega)).mono ?_
      rintro e w' ⟨rfl, rfl⟩
      clear h1
      go_wp2_with fail
      refine bodyPost_ret (v := ratV (0, 0)) (by simp [results, Try.results43, go_sem, ratV]) rfl ⟨by rw [L.out], ?_⟩
      repeat (first | exact Below.refl _ _ | refine below_drewN ?_ _ | refine Below.setCell ?_ (by simp) _ | refine Below.alloc ?_ (by simp) _ | (refine Below.alloc ?_ (by simp; omega) _))
  · rw [if_neg hs] at hk
    have HK := Lib.hid hk
    have hs' : decide (d < 0) = false := by simpa using hs
    clear hk
    go_enter Try.func43, Try.ntmps43
    go_wp2_with fail
    refine (iGD n d _ (by omega) (by omega)).mono ?_
    rintro e w' ⟨rfl, m, rfl⟩
    rw [HG.out]
    go_wp2_with fail
    rw [← HK.out]
    go_quiet (fail)
    go_wp2_with fail
    by_cases h1 : -400000000 ≤ n.tdiv k ∧ n.tdiv k ≤ 400000000
    · refine (iIsNum_t _ _ h1.1 h1.2).mono ?_
      rintro e w' ⟨rfl, rfl⟩
      go_wp2_with fail
      by_cases h2 : -400000000 ≤ d.tdiv k ∧ d.tdiv k ≤ 400000000
      · have L : Hid (low n d = (n.tdiv k, d.tdiv k)) := by
          have := (low_fits (n := n) (d := d) hd0 (by rw [L1.out, L2.out]; exact ⟨h1.1, h1.2, h2.1, h2.2⟩)).1
          rw [L1.out, L2.out] at this; exact this
        refine (iIsNum_t _ _ h2.1 h2.2).mono ?_
        rintro e w' ⟨rfl, rfl⟩
        go_wp2_with fail
        refine bodyPost_ret (v := ratV (n.tdiv k, d.tdiv k)) (by simp [results, Try.results43, go_sem, ratV]) rfl ⟨by rw [L.out], ?_⟩
        repeat (first | exact Below.refl _ _ | refine below_drewN ?_ _ | refine Below.setCell ?_ (by simp) _ | refine Below.alloc ?_ (by simp) _ | (refine Below.alloc ?_ (by simp; omega) _))
      · have L : Hid (low n d = (0, 0)) := low_none (by rw [L1.out, L2.out]; exact fun k => h2 ⟨k.2.2.1, k.2.2.2⟩)
        refine (iIsNum_f _ _ (by omega)).mono ?_
        rintro e w' ⟨rfl, rfl⟩
        clear h2
        go_wp2_with fail
        refine bodyPost_ret (v := ratV (0, 0)) (by simp [results, Try.results43, go_sem, ratV]) rfl ⟨by rw [L.out], ?_⟩
        repeat (first | exact Below.refl _ _ | refine below_drewN ?_ _ | refine Below.setCell ?_ (by simp) _ | refine Below.alloc ?_ (by simp) _ | (refine Below.alloc ?_ (by simp; omega) _))
    · have L : Hid (low n d = (0, 0)) := low_none (by rw [L1.out, L2.out]; exact fun k => h1 ⟨k.1, k.2.1⟩)
      refine (iIsNum_f _ _ (by omega)).mono ?_
      rintro e w' ⟨rfl, rfl⟩
      clear h1
      go_wp2_with fail
      refine bodyPost_ret (v := ratV (0, 0)) (by simp [results, Try.results43, go_sem, ratV]) rfl ⟨by rw [L.out], ?_⟩
      repeat (first | exact Below.refl _ _ | refine below_drewN ?_ _ | refine Below.setCell ?_ (by simp) _ | refine Below.alloc ?_ (by simp) _ | (refine Below.alloc ?_ (by simp; omega) _))
end Go.Proofs.Ytkphlfcbinjknaa
