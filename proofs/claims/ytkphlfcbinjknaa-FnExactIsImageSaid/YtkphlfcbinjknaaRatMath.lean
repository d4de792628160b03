/-
  Plain mathematics of chapter 2: lowest terms. Nothing of a program is imported.
-/
import Derived.WalkKit
namespace Go.Proofs.Ytkphlfcbinjknaa

/-- A fraction in lowest terms with a denominator from 1 on, both parts within the limit. -/
def IsRatP (n d : Int) : Prop := 1 ≤ d ∧ d ≤ 400000000 ∧ -400000000 ≤ n ∧ n ≤ 400000000 ∧ Int.gcd n d = 1
instance (n d : Int) : Decidable (IsRatP n d) := by unfold IsRatP; exact inferInstance
def isRat (n d : Int) : Bool := decide (IsRatP n d)

/-- The parts of n / d, d not 0, cancelled. -/
def lowN (n d : Int) : Int := if d < 0 then -(n.tdiv (Int.gcd n d)) else n.tdiv (Int.gcd n d)
def lowD (n d : Int) : Int := if d < 0 then -(d.tdiv (Int.gcd n d)) else d.tdiv (Int.gcd n d)
def Fits (p q : Int) : Prop := -400000000 ≤ p ∧ p ≤ 400000000 ∧ -400000000 ≤ q ∧ q ≤ 400000000
instance (n d : Int) : Decidable (Fits n d) := by unfold Fits; exact inferInstance
def low (n d : Int) : Int × Int := if d = 0 then (0, 0) else if Fits (lowN n d) (lowD n d) then (lowN n d, lowD n d) else (0, 0)

theorem gcd_pos_of (n d : Int) (hd : d ≠ 0) : 0 < Int.gcd n d := by
  rcases Nat.eq_zero_or_pos (Int.gcd n d) with hz | hz
  · exact absurd (Int.gcd_eq_zero_iff.1 hz).2 hd
  · exact hz

/-- n and d as multiples of coprime parts. -/
theorem parts (n d : Int) (hd : d ≠ 0) : ∃ p q k : Int, 0 < q ∧ k ≠ 0 ∧ n = p * k ∧ d = q * k ∧ Int.gcd p q = 1 ∧ lowN n d = p ∧ lowD n d = q ∧ (Int.gcd n d : Int) = k.natAbs ∧ (d < 0 ↔ k < 0) := by
  have hg := gcd_pos_of n d hd
  have eN : lowN n d = if d < 0 then -(n.tdiv (Int.gcd n d)) else n.tdiv (Int.gcd n d) := rfl
  have eD : lowD n d = if d < 0 then -(d.tdiv (Int.gcd n d)) else d.tdiv (Int.gcd n d) := rfl
  obtain ⟨a, ha⟩ := Int.gcd_dvd_left (a := n) (b := d)
  obtain ⟨b, hb⟩ := Int.gcd_dvd_right (a := n) (b := d)
  rw [eN, eD]
  clear eN eD
  obtain ⟨g, hG⟩ : ∃ g, Int.gcd n d = g := ⟨_, rfl⟩
  rw [hG] at hg ha hb ⊢
  have hc : Int.gcd a b = 1 := by
    have e : Int.gcd ((g : Int) * a) ((g : Int) * b) = g := by rw [← ha, ← hb]; exact hG
    rw [Int.gcd_mul_left] at e
    have e : g * Int.gcd a b = g * 1 := by simpa using e
    exact Nat.eq_of_mul_eq_mul_left hg e
  have hgi : (g : Int) ≠ 0 := by omega
  have t1 : n.tdiv g = a := by rw [ha]; exact Int.mul_tdiv_cancel_left a hgi
  have t2 : d.tdiv g = b := by rw [hb]; exact Int.mul_tdiv_cancel_left b hgi
  rw [t1, t2]
  by_cases hs : d < 0
  · have hb0 : b < 0 := by
      rcases Int.lt_or_le b 0 with h | h
      · exact h
      · have := Int.mul_nonneg (show (0 : Int) ≤ (g : Int) by omega) h; omega
    rw [if_pos hs, if_pos hs]
    exact ⟨-a, -b, -(g : Int), by omega, by omega, by rw [Int.neg_mul_neg, Int.mul_comm]; exact ha, by rw [Int.neg_mul_neg, Int.mul_comm]; exact hb, by rw [Int.neg_gcd, Int.gcd_neg]; exact hc, rfl, rfl, by omega, by omega⟩
  · have hb0 : 0 < b := by
      rcases Int.lt_or_le 0 b with h | h
      · exact h
      · have := Int.mul_nonpos_of_nonneg_of_nonpos (show (0 : Int) ≤ (g : Int) by omega) h; omega
    rw [if_neg hs, if_neg hs]
    exact ⟨a, b, (g : Int), by omega, by omega, by rw [Int.mul_comm]; exact ha, by rw [Int.mul_comm]; exact hb, hc, rfl, rfl, by omega, by omega⟩

theorem dvd_of_coprime {a b c : Int} (h : a ∣ b * c) (hg : Int.gcd a b = 1) : a ∣ c := by
  rw [← Int.natAbs_dvd_natAbs] at h ⊢
  rw [Int.natAbs_mul] at h
  rw [Int.gcd_eq_natAbs_gcd_natAbs] at hg
  exact Nat.Coprime.dvd_of_dvd_mul_left hg h
theorem natAbs_mul_le (p k : Int) (hk : k ≠ 0) : p.natAbs ≤ (p * k).natAbs := by
  rw [Int.natAbs_mul]; exact Nat.le_mul_of_pos_right _ (by omega)
/-- Parts are no larger than what was cancelled. -/
theorem low_bd (n d : Int) (hd : d ≠ 0) : (lowN n d).natAbs ≤ n.natAbs ∧ 1 ≤ lowD n d ∧ (lowD n d).natAbs ≤ d.natAbs ∧ Int.gcd (lowN n d) (lowD n d) = 1 := by
  obtain ⟨p, q, k, hq, hk, hn, hd', hg, e1, e2, _, _⟩ := parts n d hd
  rw [e1, e2]
  refine ⟨by rw [hn]; exact natAbs_mul_le p k hk, by omega, by rw [hd']; exact natAbs_mul_le q k hk, hg⟩
theorem low_fits {n d : Int} (hd : d ≠ 0) (h : Fits (lowN n d) (lowD n d)) : low n d = (lowN n d, lowD n d) ∧ IsRatP (lowN n d) (lowD n d) := by
  obtain ⟨_, b, _, g⟩ := low_bd n d hd
  unfold low
  rw [if_neg hd, if_pos h]
  exact ⟨rfl, b, h.2.2.2, h.1, h.2.1, g⟩
theorem low_none {n d : Int} (h : ¬ Fits (lowN n d) (lowD n d)) : low n d = (0, 0) := by
  unfold low; rw [if_neg h]; split <;> rfl
theorem low_zero (n : Int) : low n 0 = (0, 0) := by simp [low]
theorem not_isRat_zero : ¬ IsRatP 0 0 := by unfold IsRatP; omega
theorem isRat_of_fits {n d : Int} (hd : d ≠ 0) : isRat (lowN n d) (lowD n d) = decide (Fits (lowN n d) (lowD n d)) := by
  unfold isRat
  by_cases h : Fits (lowN n d) (lowD n d)
  · simp [h, (low_fits hd h).2]
  · have : ¬ IsRatP (lowN n d) (lowD n d) := fun k => h ⟨k.2.2.1, k.2.2.2.1, by have := k.1; omega, k.2.1⟩
    simp [h, this]

/-- The lowest terms are the only ones. -/
theorem low_unique {n d p q : Int} (hd : d ≠ 0) (hr : IsRatP p q) (h : n * q = p * d) : low n d = (p, q) := by
  obtain ⟨h1, h2, h3, h4, h5⟩ := hr
  obtain ⟨p', q', k, hq, hk, hn, hd', hg, e1, e2, _, _⟩ := parts n d hd
  have e : p' * q = p * q' := by
    have : (p' * q) * k = (p * q') * k := by
      calc (p' * q) * k = (p' * k) * q := by rw [Int.mul_right_comm]
        _ = n * q := by rw [← hn]
        _ = p * d := h
        _ = p * (q' * k) := by rw [← hd']
        _ = (p * q') * k := by rw [Int.mul_assoc]
    exact Int.eq_of_mul_eq_mul_right hk this
  have d1 : q' ∣ q := by
    have : q' ∣ p' * q := ⟨p, by rw [e, Int.mul_comm]⟩
    exact dvd_of_coprime this (by rw [Int.gcd_comm]; exact hg)
  have d2 : q ∣ q' := by
    have : q ∣ p * q' := ⟨p', by rw [← e, Int.mul_comm]⟩
    exact dvd_of_coprime this (by rw [Int.gcd_comm]; exact h5)
  have eq : q' = q := by
    have l1 := Int.le_of_dvd (by omega) d1
    have l2 := Int.le_of_dvd (by omega) d2
    omega
  subst eq
  have ep : p' = p := Int.eq_of_mul_eq_mul_right (show q' ≠ 0 by omega) e
  subst ep
  unfold low
  rw [if_neg hd, e1, e2, if_pos ⟨h3, h4, by omega, h2⟩]
/-- What a ratio that is not none says. -/
theorem low_says {n d p q : Int} (h : low n d = (p, q)) (hr : IsRatP p q) : d ≠ 0 ∧ n * q = p * d := by
  by_cases hd : d = 0
  · subst hd; rw [low_zero] at h; cases h; exact absurd hr not_isRat_zero
  · refine ⟨hd, ?_⟩
    obtain ⟨p', q', k, hq, hk, hn, hd', hg, e1, e2, _, _⟩ := parts n d hd
    by_cases hf : Fits (lowN n d) (lowD n d)
    · rw [(low_fits hd hf).1, e1, e2] at h
      cases h
      calc n * q = (p * k) * q := by rw [← hn]
        _ = p * (q * k) := by rw [Int.mul_assoc, Int.mul_comm k q]
        _ = p * d := by rw [← hd']
    · rw [low_none hf] at h; cases h; exact absurd hr not_isRat_zero
theorem low_cases (n d : Int) : low n d = (0, 0) ∨ ∃ p q, low n d = (p, q) ∧ IsRatP p q := by
  by_cases hd : d = 0
  · subst hd; exact .inl (low_zero n)
  · by_cases hf : Fits (lowN n d) (lowD n d)
    · exact .inr ⟨_, _, (low_fits hd hf).1, (low_fits hd hf).2⟩
    · exact .inl (low_none hf)
theorem low_self {p q : Int} (hr : IsRatP p q) : low p q = (p, q) := low_unique (by have := hr.1; omega) hr rfl
/-- The program's own test: not none, and the same as its lowest terms. -/
theorem isRat_iff (n d : Int) (h : ¬ (n = 0 ∧ d = 0)) : IsRatP n d ↔ low n d = (n, d) := by
  constructor
  · exact low_self
  · intro e
    rcases low_cases n d with h0 | ⟨p, q, h1, h2⟩
    · rw [h0] at e; cases e; exact absurd ⟨rfl, rfl⟩ h
    · rw [h1] at e; cases e; exact h2
theorem isRat_in {n d : Int} (h : IsRatP n d) : (-400000000 ≤ n ∧ n ≤ 400000000) ∧ (-400000000 ≤ d ∧ d ≤ 400000000) := ⟨⟨h.2.2.1, h.2.2.2.1⟩, by have := h.1; omega, h.2.1⟩
/-- MakeRatio. -/
def mkRat (n d : Int) : Int × Int := if (-400000000 ≤ n ∧ n ≤ 400000000) ∧ (-400000000 ≤ d ∧ d ≤ 400000000) then low n d else (0, 0)
theorem mkRat_in {n d : Int} (h : (-400000000 ≤ n ∧ n ≤ 400000000) ∧ (-400000000 ≤ d ∧ d ≤ 400000000)) : mkRat n d = low n d := if_pos h
theorem mkRat_out {n d : Int} (h : ¬ ((-400000000 ≤ n ∧ n ≤ 400000000) ∧ (-400000000 ≤ d ∧ d ≤ 400000000))) : mkRat n d = (0, 0) := if_neg h
theorem isRat_mk (n d : Int) (h : ¬ (n = 0 ∧ d = 0)) : isRat n d = decide (mkRat n d = (n, d)) := by
  unfold isRat
  by_cases hb : (-400000000 ≤ n ∧ n ≤ 400000000) ∧ (-400000000 ≤ d ∧ d ≤ 400000000)
  · rw [mkRat_in hb]; exact decide_eq_decide.2 (isRat_iff n d h)
  · rw [mkRat_out hb]
    have h1 : ¬ IsRatP n d := fun k => hb (isRat_in k)
    have h2 : ¬ ((0, 0) = (n, d)) := fun k => h (by cases k; exact ⟨rfl, rfl⟩)
    simp [h1, h2]

/-! ### Sums and products -/
theorem mul_sm (a b : Int) (ha : -400000000 ≤ a ∧ a ≤ 400000000) (hb : -400000000 ≤ b ∧ b ≤ 400000000) : -160000000000000000 ≤ a * b ∧ a * b ≤ 160000000000000000 := by
  have e : (a * b).natAbs = a.natAbs * b.natAbs := Int.natAbs_mul a b
  have l : a.natAbs * b.natAbs ≤ 400000000 * 400000000 := Nat.mul_le_mul (by omega) (by omega)
  omega
/-- A comparison's answer. -/
def cmpI (x y : Int) : Int := if x < y then -1 else if y < x then 1 else 0
/-- Rounding: the nearest whole number. -/
theorem round_eq (n d : Int) (hd : 0 < d) : (2 * n + d) / (2 * d) = if d ≤ 2 * (n % d) then n / d + 1 else n / d := by
  have e := Int.mul_ediv_add_emod n d
  have r0 := Int.emod_nonneg n (show d ≠ 0 by omega)
  have r1 := Int.emod_lt_of_pos n hd
  by_cases h : d ≤ 2 * (n % d)
  · rw [if_pos h]
    refine ((Int.ediv_emod_unique (r := 2 * (n % d) - d) (show 0 < 2 * d by omega)).2 ⟨?_, by omega, by omega⟩).1
    rw [Int.mul_add, Int.mul_assoc]; omega
  · rw [if_neg h]
    refine ((Int.ediv_emod_unique (r := 2 * (n % d) + d) (show 0 < 2 * d by omega)).2 ⟨?_, by omega, by omega⟩).1
    rw [Int.mul_assoc]; omega
end Go.Proofs.Ytkphlfcbinjknaa
