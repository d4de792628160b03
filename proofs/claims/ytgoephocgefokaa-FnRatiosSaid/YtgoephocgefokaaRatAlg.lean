/-
  Plain mathematics of chapter 2: the laws of sums, products, quotients and comparisons of ratios.
-/
import Derived.Test.YtgoephocgefokaaRatOpS
import Derived.Test.YtgoephocgefokaaRatRest
namespace Go.Proofs.Ytgoephocgefokaa

theorem addR_comm (p q r s : Int) : addR r s p q = addR p q r s := by
  unfold addR
  rw [Bool.and_comm, show r * q + p * s = p * s + r * q from Int.add_comm _ _, Int.mul_comm s q]
theorem mulR_comm (p q r s : Int) : mulR r s p q = mulR p q r s := by
  unfold mulR
  rw [Bool.and_comm, Int.mul_comm r p, Int.mul_comm s q]
theorem neg_isRat {r s : Int} (h : IsRatP r s) : IsRatP (-r) s := ⟨h.1, h.2.1, by have := h.2.2.2.1; omega, by have := h.2.2.1; omega, by rw [Int.neg_gcd]; exact h.2.2.2.2⟩
theorem and_isRat {p q r s : Int} (h : (isRat p q && isRat r s) = true) : IsRatP p q ∧ IsRatP r s := by
  rw [Bool.and_eq_true] at h
  exact ⟨of_decide_eq_true h.1, of_decide_eq_true h.2⟩
theorem add_back {p q r s : Int} (h : isRat (addR p q r s).1 (addR p q r s).2 = true) : addR (addR p q r s).1 (addR p q r s).2 (negR r s).1 (negR r s).2 = (p, q) := by
  by_cases hb : (isRat p q && isRat r s) = true
  · obtain ⟨ha, hr⟩ := and_isRat hb
    have e : addR p q r s = low (p * s + r * q) (q * s) := by unfold addR; rw [if_pos hb]
    rw [e] at h ⊢
    obtain ⟨x, y, hxy⟩ : ∃ x y, low (p * s + r * q) (q * s) = (x, y) := ⟨_, _, rfl⟩
    rw [hxy] at h ⊢
    have hA : IsRatP x y := of_decide_eq_true h
    have hn : negR r s = (-r, s) := by unfold negR; rw [show isRat r s = true from decide_eq_true hr]; rfl
    rw [hn]
    have h2 : (isRat x y && isRat (-r) s) = true := by rw [h, show isRat (-r) s = true from decide_eq_true (neg_isRat hr)]; rfl
    show addR x y (-r) s = (p, q)
    unfold addR
    rw [if_pos h2]
    obtain ⟨-, hs⟩ := low_says hxy hA
    refine low_unique ?_ ha ?_
    · have := Int.mul_pos (show 0 < y by have := hA.1; omega) (show 0 < s by have := hr.1; omega); omega
    · grind
  · have e : addR p q r s = (0, 0) := by unfold addR; rw [if_neg hb]
    rw [e] at h
    exact absurd (of_decide_eq_true h) not_isRat_zero
theorem mul_back {p q r s : Int} (h : isRat (divR p q r s).1 (divR p q r s).2 = true) : mulR (divR p q r s).1 (divR p q r s).2 r s = (p, q) := by
  by_cases hb : (isRat p q && isRat r s) = true
  · obtain ⟨ha, hr⟩ := and_isRat hb
    have e : divR p q r s = low (p * s) (q * r) := by unfold divR; rw [if_pos hb]
    rw [e] at h ⊢
    obtain ⟨x, y, hxy⟩ : ∃ x y, low (p * s) (q * r) = (x, y) := ⟨_, _, rfl⟩
    rw [hxy] at h ⊢
    have hA : IsRatP x y := of_decide_eq_true h
    have h2 : (isRat x y && isRat r s) = true := by rw [h, show isRat r s = true from decide_eq_true hr]; rfl
    show mulR x y r s = (p, q)
    unfold mulR
    rw [if_pos h2]
    obtain ⟨-, hs⟩ := low_says hxy hA
    refine low_unique ?_ ha ?_
    · have := Int.mul_pos (show 0 < y by have := hA.1; omega) (show 0 < s by have := hr.1; omega); omega
    · grind
  · have e : divR p q r s = (0, 0) := by unfold divR; rw [if_neg hb]
    rw [e] at h
    exact absurd (of_decide_eq_true h) not_isRat_zero
/-- Comparisons: both ways 2, or opposite to one another, and 0 just for equal ones. -/
theorem cmp_both (p q r s : Int) : (cmpR p q r s = 2 ∧ cmpR r s p q = 2) ∨ (cmpR p q r s ≠ 2 ∧ -1 ≤ cmpR p q r s ∧ cmpR p q r s ≤ 1 ∧ cmpR r s p q = - cmpR p q r s ∧ (cmpR p q r s == 0) = (p == r && q == s)) := by
  by_cases hb : (isRat p q && isRat r s) = true
  · right
    have hb' : (isRat r s && isRat p q) = true := by rw [Bool.and_comm]; exact hb
    obtain ⟨ha, hr⟩ := and_isRat hb
    have e1 : cmpR p q r s = cmpI (p * s) (r * q) := by unfold cmpR; rw [if_pos hb]
    have e2 : cmpR r s p q = cmpI (r * q) (p * s) := by unfold cmpR; rw [if_pos hb']
    have hu : p * s = r * q ↔ (p = r ∧ q = s) := by
      constructor
      · intro h
        have l1 := low_self ha
        have l2 := low_unique (n := p) (d := q) (by have := ha.1; omega) hr h
        rw [l1] at l2
        cases l2; exact ⟨rfl, rfl⟩
      · rintro ⟨rfl, rfl⟩; rfl
    rw [e1, e2]
    unfold cmpI
    rcases Int.lt_trichotomy (p * s) (r * q) with h | h | h
    · rw [if_pos h, if_neg (by omega), if_pos h]
      refine ⟨by omega, by omega, by omega, rfl, ?_⟩
      have : ¬ (p = r ∧ q = s) := fun k => by have := hu.2 k; omega
      rw [show ((-1 : Int) == 0) = false from rfl]
      symm; rw [Bool.and_eq_false_iff]
      by_cases k : p = r
      · right; simp only [beq_eq_false_iff_ne]; exact fun k2 => this ⟨k, k2⟩
      · left; simpa using k
    · rw [if_neg (by omega), if_neg (by omega), if_neg (by omega), if_neg (by omega)]
      obtain ⟨rfl, rfl⟩ := hu.1 h
      refine ⟨by omega, by omega, by omega, rfl, by simp⟩
    · rw [if_neg (by omega), if_pos h, if_pos h]
      refine ⟨by omega, by omega, by omega, rfl, ?_⟩
      have : ¬ (p = r ∧ q = s) := fun k => by have := hu.2 k; omega
      rw [show ((1 : Int) == 0) = false from rfl]
      symm; rw [Bool.and_eq_false_iff]
      by_cases k : p = r
      · right; simp only [beq_eq_false_iff_ne]; exact fun k2 => this ⟨k, k2⟩
      · left; simpa using k
  · left
    have hb' : ¬ (isRat r s && isRat p q) = true := by rw [Bool.and_comm]; exact hb
    exact ⟨by unfold cmpR; rw [if_neg hb], by unfold cmpR; rw [if_neg hb']⟩
end Go.Proofs.Ytgoephocgefokaa
