/-
  Plain mathematics of chapter 2: the nearest whole number; and the laws' own |n|.
-/
import Derived.Test.YtgoephocgefokaaRatRest
namespace Go.Proofs.Ytgoephocgefokaa
open Go.RowKit

theorem labs (n : Int) (w : World) (h1 : -4000000000000000000 ≤ n) (h2 : n ≤ 4000000000000000000) :
    Calls Try.prog 39 #[.int .i64 n] w fun e w' => e = .returned (.int .i64 (n.natAbs : Int)) ∧ w = w' := by
  rcases Int.lt_or_le n 0 with h | h
  · obtain ⟨m, rfl⟩ : ∃ m, n = -m := ⟨-n, by omega⟩
    rw [show (((-m).natAbs : Nat) : Int) = m by omega]
    go_enter Try.func39, Try.ntmps39
    go_wp2
    all_goals
      go_ret
      exact ⟨ret_int (by omega), rfl⟩
  · rw [show ((n.natAbs : Nat) : Int) = n by omega]
    go_enter Try.func39, Try.ntmps39
    go_wp2
    all_goals
      go_ret
      exact ⟨ret_int (by omega), rfl⟩
/-- What is said of a ratio and the two whole numbers beside it. -/
theorem near {p q : Int} (hr : IsRatP p q) : ∃ f n d : Int, floorR p q = f ∧ roundR p q = n ∧ (n = f ∨ n = f + 1) ∧ f * q ≤ p ∧ p < (f + 1) * q ∧ (n * q - p).natAbs = d ∧ 2 * d ≤ q ∧ 0 ≤ d ∧
    -400000001 ≤ f ∧ f ≤ 400000000 ∧ -800000000 ≤ f * q ∧ f * q ≤ 800000000 ∧ (f + 1) * q ≤ 800000000 ∧ -800000000 ≤ (f + 1) * q ∧ -800000000 ≤ n * q ∧ n * q ≤ 800000000 := by
  have hb : isRat p q = true := decide_eq_true hr
  obtain ⟨⟨p1, p2⟩, q1, q2⟩ := isRat_in hr
  have hq := hr.1
  have e := Int.mul_ediv_add_emod p q
  have r0 := Int.emod_nonneg p (show q ≠ 0 by omega)
  have r1 := Int.emod_lt_of_pos p (show 0 < q by omega)
  obtain ⟨f1, f2⟩ := ediv_bd p q (by omega) p1 p2
  have ef : floorR p q = p / q := by unfold floorR; rw [hb]; rfl
  have en : roundR p q = if q ≤ 2 * (p % q) then p / q + 1 else p / q := by unfold roundR; rw [hb]; exact round_eq p q (by omega)
  have m1 : p / q * q = q * (p / q) := Int.mul_comm _ _
  have m2 : (p / q + 1) * q = q * (p / q) + q := by rw [Int.add_mul, Int.one_mul, m1]
  by_cases h : q ≤ 2 * (p % q)
  · rw [if_pos h] at en
    refine ⟨p / q, p / q + 1, _, ef, en, .inr rfl, by omega, by omega, rfl, by omega, by omega, f1, f2, by omega, by omega, by omega, by omega, by omega, by omega⟩
  · rw [if_neg h] at en
    refine ⟨p / q, p / q, _, ef, en, .inl rfl, by omega, by omega, rfl, by omega, by omega, f1, f2, by omega, by omega, by omega, by omega, by omega, by omega⟩
end Go.Proofs.Ytgoephocgefokaa
