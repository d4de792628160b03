/-
  Chapter 8, in the program: the iterator over primes; IsPrime.
-/
import Derived.Test.YtncplikadacjnaaModB
import Derived.Test.YtncplikadacjnaaAppI
import Derived.Test.YtncplikadacjnaaBlk
import Derived.RangeFuncNested
import Derived.RangeFuncBound
import Derived.RangeFuncCalls
import Derived.RangeFuncLeaves
import Derived.Shelf.Abstract
import Derived.WalkKit
import Derived.OwnWalkIn
import Derived.TacticsInMore
import Derived.LoopNIn
import Derived.LoopIn
namespace Go.Proofs.Ytncplikadacjnaa
set_option maxRecDepth 100000
open Go.RowKit Go.Shelf

/-- The primes below n, in order. -/
def prmTo (n : Nat) : List Int := ((List.range n).filter fun (q : Nat) => prmB (q : Int)).map fun (q : Nat) => (q : Int)
theorem prmTo_succ (n : Nat) : prmTo (n + 1) = if prmB (n : Int) = true then prmTo n ++ [(n : Int)] else prmTo n := by
  unfold prmTo
  rw [List.range_succ, List.filter_append, List.map_append]
  by_cases h : prmB (n : Int) = true
  · rw [if_pos h]; simp [h]
  · rw [if_neg h]; simp [h]
theorem prmTo_mem {n : Nat} {x : Int} : x ∈ prmTo n ↔ ∃ q : Nat, x = q ∧ q < n ∧ prmB (q : Int) = true := by
  unfold prmTo
  simp only [List.mem_map, List.mem_filter, List.mem_range]
  exact ⟨fun ⟨q, ⟨h1, h2⟩, e⟩ => ⟨q, e.symm, h1, h2⟩, fun ⟨q, e, h1, h2⟩ => ⟨q, ⟨h1, h2⟩, e.symm⟩⟩
theorem prmTo_two : prmTo 2 = [] := by decide
theorem prmTo_length (n : Nat) : (prmTo n).length ≤ n := by
  unfold prmTo
  rw [List.length_map]
  exact Nat.le_trans (List.length_filter_le _ _) (by simp)
/-- The least divisor of a number is prime. -/
theorem least_div : ∀ n d : Nat, 2 ≤ d → d ∣ n → 0 < n → ∃ q : Nat, 2 ≤ q ∧ q ≤ d ∧ q ∣ n ∧ ∀ e : Nat, 2 ≤ e → e < q → ¬ e ∣ n := by
  intro n d
  induction d using Nat.strongRecOn with
  | ind d ih =>
    intro hd hdv hn
    by_cases h : ∃ e, 2 ≤ e ∧ e < d ∧ e ∣ n
    · obtain ⟨e, e1, e2, e3⟩ := h
      obtain ⟨q, q1, q2, q3⟩ := ih e e2 e1 e3 hn
      exact ⟨q, q1, by omega, q3⟩
    · exact ⟨d, hd, Nat.le_refl _, hdv, fun e e1 e2 e3 => h ⟨e, e1, e2, e3⟩⟩
theorem prm_of_least {n q : Nat} (h1 : 2 ≤ q) (h2 : q ≤ 10000) (h3 : q ∣ n) (h4 : ∀ e : Nat, 2 ≤ e → e < q → ¬ e ∣ n) : prmB (q : Int) = true := by
  refine prmB_true ⟨by omega, by omega⟩ fun d hd hdd hdv => ?_
  have e1 : d ∣ q := Int.natCast_dvd_natCast.mp hdv
  have e2 : d * d ≤ q := by rw [← Int.natCast_mul] at hdd; omega
  have e3 : d < q := by
    have : 2 * d ≤ d * d := Nat.mul_le_mul_right d hd
    omega
  exact h4 d hd e3 (Nat.dvd_trans e1 h3)
/-- A number is prime exactly if no prime below it divides it. -/
theorem prm_iff {n : Nat} (h1 : 2 ≤ n) (h2 : n ≤ 10000) : prmB (n : Int) = true ↔ ∀ x ∈ prmTo n, (n : Int) % x ≠ 0 := by
  constructor
  · intro hp x hx he
    obtain ⟨q, rfl, hq, hqp⟩ := prmTo_mem.mp hx
    have hq2 := (prmB_says hqp).1.1
    have hdv : q ∣ n := Int.natCast_dvd_natCast.mp (Int.dvd_of_emod_eq_zero he)
    obtain ⟨m, hm⟩ := hdv
    obtain ⟨pp, -⟩ := prmB_says hp
    have hm2 : 2 ≤ m := by
      rcases Nat.lt_or_ge m 2 with h | h
      · have : m = 0 ∨ m = 1 := by omega
        rcases this with rfl | rfl
        · omega
        · omega
      · exact h
    rcases Nat.le_total q m with h | h
    · refine pp.2 q (by omega) ?_ ⟨m, by rw [hm, Int.natCast_mul]⟩
      rw [hm, ← Int.natCast_mul]
      exact Int.ofNat_le.mpr (Nat.mul_le_mul_left q h)
    · refine pp.2 m (by omega) ?_ ⟨q, by rw [hm, Int.natCast_mul, Int.mul_comm]⟩
      rw [hm, ← Int.natCast_mul]
      exact Int.ofNat_le.mpr (Nat.mul_le_mul_right m h)
  · intro h
    obtain ⟨q, q1, q2, q3, q4⟩ := least_div n n h1 (Nat.dvd_refl n) (by omega)
    have hq := prm_of_least q1 (by omega) q3 q4
    rcases Nat.lt_or_ge q n with h3 | h3
    · exact absurd (Int.emod_eq_zero_of_dvd (Int.natCast_dvd_natCast.mpr q3)) (h q (prmTo_mem.mpr ⟨q, rfl, h3, hq⟩))
    · obtain rfl : q = n := by omega
      exact hq
/-- A number that is not prime has a prime divisor whose square is not beyond it. -/
theorem not_prm {p : Int} (h1 : 2 ≤ p) (h2 : p ≤ 10000) (h : prmB p = false) : ∃ q : Nat, q < 10001 ∧ prmB (q : Int) = true ∧ (q : Int) * (q : Int) ≤ p ∧ p % (q : Int) = 0 := by
  obtain ⟨n, rfl⟩ := Int.eq_ofNat_of_zero_le (show 0 ≤ p by omega)
  have hx : ¬ ∀ d : Nat, 2 ≤ d → (d : Int) * (d : Int) ≤ (n : Int) → ¬ (d : Int) ∣ (n : Int) := fun h3 => by
    rw [prmB_true ⟨h1, h2⟩ h3] at h; cases h
  have : ∃ d : Nat, 2 ≤ d ∧ (d : Int) * (d : Int) ≤ (n : Int) ∧ (d : Int) ∣ (n : Int) := Classical.byContradiction fun hn => hx fun d e1 e2 e3 => hn ⟨d, e1, e2, e3⟩
  obtain ⟨d, d1, d2, d3⟩ := this
  obtain ⟨q, q1, q2, q3, q4⟩ := least_div n d d1 (Int.natCast_dvd_natCast.mp d3) (by omega)
  have hqd : q * q ≤ d * d := Nat.mul_le_mul q2 q2
  rw [← Int.natCast_mul] at d2
  have h5 : q ≤ q * q := Nat.le_mul_of_pos_left q (by omega)
  refine ⟨q, by omega, prm_of_least q1 (by omega) q3 q4, by rw [← Int.natCast_mul]; omega, Int.emod_eq_zero_of_dvd (Int.natCast_dvd_natCast.mpr q3)⟩
/-- A prime whose square is not beyond p divides no prime p. -/
theorem prm_not {p : Int} {q : Nat} (h : prmB p = true) (hq : 2 ≤ q) (hqq : (q : Int) * (q : Int) ≤ p) : p % (q : Int) ≠ 0 := fun e => (prmB_says h).1.2 q (by omega) hqq (Int.dvd_of_emod_eq_zero e)
end Go.Proofs.Ytncplikadacjnaa
