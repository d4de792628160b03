/-
  Plain mathematics of chapter 8: residues. Nothing of a program is used.
-/
import Derived.Test.YtkphlfcbinjknaaSumMath
namespace Go.Proofs.Ytkphlfcbinjknaa

/-- Two numbers have one residue. -/
def Cg (p a b : Int) : Prop := p ∣ a - b
theorem Cg.refl (p a : Int) : Cg p a a := ⟨0, by omega⟩
theorem Cg.of_eq {p a b : Int} (h : a = b) : Cg p a b := h ▸ Cg.refl p a
theorem Cg.symm {p a b : Int} (h : Cg p a b) : Cg p b a := by
  obtain ⟨k, hk⟩ := h
  exact ⟨-k, by rw [Int.mul_neg, ← hk]; omega⟩
theorem Cg.trans {p a b c : Int} (h : Cg p a b) (h' : Cg p b c) : Cg p a c := by
  obtain ⟨k, hk⟩ := h
  obtain ⟨l, hl⟩ := h'
  exact ⟨k + l, by rw [Int.mul_add, ← hk, ← hl]; omega⟩
theorem Cg.add {p a b c d : Int} (h : Cg p a b) (h' : Cg p c d) : Cg p (a + c) (b + d) := by
  obtain ⟨k, hk⟩ := h
  obtain ⟨l, hl⟩ := h'
  exact ⟨k + l, by rw [Int.mul_add, ← hk, ← hl]; omega⟩
theorem Cg.neg {p a b : Int} (h : Cg p a b) : Cg p (-a) (-b) := by
  obtain ⟨k, hk⟩ := h
  exact ⟨-k, by rw [Int.mul_neg, ← hk]; omega⟩
theorem Cg.sub {p a b c d : Int} (h : Cg p a b) (h' : Cg p c d) : Cg p (a - c) (b - d) := by
  obtain ⟨k, hk⟩ := h
  obtain ⟨l, hl⟩ := h'
  exact ⟨k - l, by rw [Int.mul_sub, ← hk, ← hl]; omega⟩
theorem Cg.mul {p a b c d : Int} (h : Cg p a b) (h' : Cg p c d) : Cg p (a * c) (b * d) := by
  obtain ⟨k, hk⟩ := h
  obtain ⟨l, hl⟩ := h'
  refine ⟨k * c + b * l, ?_⟩
  have e1 : a = b + p * k := by omega
  have e2 : c = d + p * l := by omega
  rw [e1, e2]
  grind
theorem Cg.mul_left {p a b : Int} (x : Int) (h : Cg p a b) : Cg p (x * a) (x * b) := (Cg.refl p x).mul h
theorem Cg.emod (p a : Int) : Cg p (a % p) a := ⟨-(a / p), by rw [Int.emod_def, Int.mul_neg]; omega⟩
theorem Cg.eq {p a b : Int} (ha : 0 ≤ a ∧ a < p) (hb : 0 ≤ b ∧ b < p) (h : Cg p a b) : a = b := by
  obtain ⟨k, hk⟩ := h
  have hp : 0 < p := by omega
  have h1 : a - b < p := by omega
  have h2 : -p < a - b := by omega
  rw [hk] at h1 h2
  have h3 : k < 1 := Int.lt_of_mul_lt_mul_left (a := p) (by rw [Int.mul_one]; exact h1) (by omega)
  have h4 : -1 < k := Int.lt_of_mul_lt_mul_left (a := p) (by rw [Int.mul_neg, Int.mul_one]; exact h2) (by omega)
  obtain rfl : k = 0 := by omega
  rw [Int.mul_zero] at hk
  omega
theorem Cg.zero {p a : Int} : Cg p a 0 ↔ p ∣ a := by unfold Cg; rw [Int.sub_zero]
theorem Cg.of_emod {p a b : Int} (h : a % p = b % p) : Cg p a b := ((Cg.emod p a).symm.trans (Cg.of_eq h)).trans (Cg.emod p b)
theorem Cg.emod_eq {p a b : Int} (hp : 0 < p) (h : Cg p a b) : a % p = b % p :=
  Cg.eq ⟨Int.emod_nonneg _ (by omega), Int.emod_lt_of_pos _ hp⟩ ⟨Int.emod_nonneg _ (by omega), Int.emod_lt_of_pos _ hp⟩ (((Cg.emod p a).trans h).trans (Cg.emod p b).symm)
theorem Cg.sum {p : Int} {n : Nat} {f g : Nat → Int} (h : ∀ i, i < n → Cg p (f i) (g i)) : Cg p (sumN n f) (sumN n g) := by
  induction n with
  | zero => exact Cg.refl _ _
  | succ n ih => exact (ih fun i hi => h i (by omega)).add (h n (by omega))
/-- Go's remainder, brought above 0. -/
theorem mod_go {n p : Int} (hp : 0 < p) : (n.tmod p + p).tmod p = n % p := by
  have h1 : -p < n.tmod p := by
    have := Int.lt_tmod_of_pos n hp
    omega
  rw [Int.tmod_eq_emod_of_nonneg (by omega), Int.add_emod_right]
  refine Cg.emod_eq hp ?_
  exact ⟨-(n.tdiv p), by rw [Int.tmod_def, Int.mul_neg]; omega⟩
/-- A prime number, as its check by small divisors tells. -/
def Prm (p : Int) : Prop := 2 ≤ p ∧ ∀ d : Int, 2 ≤ d → d * d ≤ p → ¬ d ∣ p
theorem Prm.div {p d : Int} (h : Prm p) (hd : 0 < d) (h1 : d ∣ p) : d = 1 ∨ d = p := by
  obtain ⟨e, he⟩ := h1
  obtain ⟨h2, h3⟩ := h
  have e0 : 0 < e := by
    have : 0 < d * e := by omega
    exact Int.pos_of_mul_pos_right this hd
  by_cases d1 : d = 1
  · exact .inl d1
  · by_cases e1 : e = 1
    · rw [e1, Int.mul_one] at he; exact .inr he.symm
    · exfalso
      rcases Int.lt_or_le e d with hl | hl
      · refine h3 e (by omega) ?_ ⟨d, by rw [he, Int.mul_comm]⟩
        rw [he]
        exact Int.mul_le_mul_of_nonneg_right (by omega) (by omega)
      · refine h3 d (by omega) ?_ ⟨e, he⟩
        rw [he]
        exact Int.mul_le_mul_of_nonneg_left hl (by omega)
theorem Prm.gcd {p a : Int} (h : Prm p) (ha : ¬ p ∣ a) : (a.gcd p : Int) = 1 := by
  have h0 : 0 < (a.gcd p : Int) := by
    have := Int.gcd_pos_of_ne_zero_right a (show p ≠ 0 by have := h.1; omega)
    omega
  rcases h.div h0 (Int.gcd_dvd_right ..) with e | e
  · exact e
  · exact absurd (by have := Int.gcd_dvd_left a p; rw [e] at this; exact this) ha
theorem Prm.mul {p a b : Int} (h : Prm p) (hd : p ∣ a * b) : p ∣ a ∨ p ∣ b := by
  by_cases ha : p ∣ a
  · exact .inl ha
  · right
    have hg := h.gcd ha
    have hc : Nat.Coprime p.natAbs a.natAbs := by
      unfold Nat.Coprime
      rw [Nat.gcd_comm]
      have : a.gcd p = Nat.gcd a.natAbs p.natAbs := rfl
      omega
    have h1 : p.natAbs ∣ a.natAbs * b.natAbs := by
      rw [← Int.natAbs_mul]
      exact Int.natAbs_dvd_natAbs.mpr hd
    exact Int.natAbs_dvd_natAbs.mp (hc.dvd_of_dvd_mul_left h1)
/-- What a factor that is not 0 takes to one residue has one residue. -/
theorem Prm.cancel {p a x y : Int} (h : Prm p) (ha : ¬ p ∣ a) (hc : Cg p (a * x) (a * y)) : Cg p x y := by
  have h1 : p ∣ a * (x - y) := by rw [Int.mul_sub]; exact hc
  exact (h.mul h1).resolve_left ha
theorem Prm.one {p : Int} (h : Prm p) : ¬ p ∣ 1 := fun hd => by
  have := Int.le_of_dvd (by decide) hd
  have := h.1
  omega
/-- An inverse of a residue. -/
def InvP (p a x : Int) : Prop := Cg p (a * x) 1
theorem InvP.ne {p a x : Int} (hp : Prm p) (h : InvP p a x) : ¬ p ∣ a := fun hd => by
  refine hp.one ?_
  have h1 : Cg p (a * x) 0 := Cg.zero.mpr (Int.dvd_trans hd (Int.dvd_mul_right _ _))
  exact Cg.zero.mp (h.symm.trans h1)
theorem InvP.uniq {p a x y : Int} (hp : Prm p) (h : InvP p a x) (h' : InvP p a y) : Cg p x y := hp.cancel (h.ne hp) (h.trans h'.symm)
theorem InvP.nz {p a x : Int} (hp : Prm p) (h : InvP p a x) : ¬ p ∣ x := InvP.ne (a := x) (x := a) hp (by unfold InvP at *; rw [Int.mul_comm]; exact h)
end Go.Proofs.Ytkphlfcbinjknaa
