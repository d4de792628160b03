/-
  Plain mathematics of chapter 7: primitive rows. Nothing of a program is used.
-/
import Derived.Test.YtpknondccajinaaMatMath
import Derived.Test.YtpknondccajinaaSpn
namespace Go.Proofs.Ytpknondccajinaa

/-- The greatest common divisor of the first n. -/
def gcdN : Nat → (Nat → Int) → Int
  | 0, _ => 0
  | n + 1, f => ((gcdN n f).gcd (f n) : Int)
/-- The sign of the first one that is not 0. -/
def sgnN : Nat → (Nat → Int) → Int
  | 0, _ => 0
  | n + 1, f => if sgnN n f = 0 ∧ f n ≠ 0 then (if f n < 0 then -1 else 1) else sgnN n f
theorem gcdN_nonneg (n : Nat) (f : Nat → Int) : 0 ≤ gcdN n f := by
  cases n with
  | zero => exact Int.le_refl _
  | succ n => exact Int.natCast_nonneg _
theorem gcdN_dvd {n : Nat} {f : Nat → Int} : ∀ j, j < n → gcdN n f ∣ f j := by
  induction n with
  | zero => intro j hj; omega
  | succ n ih =>
    intro j hj
    rcases Nat.lt_or_ge j n with h | h
    · exact Int.dvd_trans (Int.gcd_dvd_left ..) (ih j h)
    · obtain rfl : j = n := by omega
      exact Int.gcd_dvd_right ..
theorem gcdN_max {n : Nat} {f : Nat → Int} {g : Int} : (∀ j, j < n → g ∣ f j) → g ∣ gcdN n f := by
  induction n with
  | zero => intro _; exact Int.dvd_zero g
  | succ n ih => intro h; exact Int.dvd_coe_gcd (ih fun j hj => h j (by omega)) (h n (by omega))
theorem gcdN_none {n : Nat} {f : Nat → Int} (h : gcdN n f = 0) : ∀ j, j < n → f j = 0 := fun j hj => by
  have := gcdN_dvd (f := f) j hj
  rw [h] at this
  exact Int.zero_dvd.mp this
theorem gcdN_all {n : Nat} {f : Nat → Int} (h : ∀ j, j < n → f j = 0) : gcdN n f = 0 := by
  induction n with
  | zero => rfl
  | succ n ih =>
    show ((gcdN n f).gcd (f n) : Int) = 0
    rw [ih fun j hj => h j (by omega), h n (by omega)]
    rfl
theorem gcdN_congr {n : Nat} {f g : Nat → Int} (h : ∀ j, j < n → f j = g j) : gcdN n f = gcdN n g := by
  induction n with
  | zero => rfl
  | succ n ih =>
    show ((gcdN n f).gcd (f n) : Int) = ((gcdN n g).gcd (g n) : Int)
    rw [ih fun j hj => h j (by omega), h n (by omega)]
theorem gcdN_num {n : Nat} {f : Nat → Int} (h : ∀ j, j < n → NumP (f j)) : NumP (gcdN n f) := by
  have h0 := gcdN_nonneg n f
  by_cases hz : gcdN n f = 0
  · rw [hz]; exact ⟨by decide, by decide⟩
  · have : ∃ j, j < n ∧ f j ≠ 0 := Classical.byContradiction fun hn => hz (gcdN_all fun j hj => Classical.byContradiction fun h1 => hn ⟨j, hj, h1⟩)
    obtain ⟨j, hj, hfj⟩ := this
    have hd := gcdN_dvd (f := f) j hj
    have hb := h j hj
    unfold NumP at hb ⊢
    have hle : gcdN n f ≤ (f j).natAbs := by
      refine Int.le_of_dvd (by omega) ?_
      exact Int.dvd_natAbs.mpr hd
    omega
theorem sgnN_congr {n : Nat} {f g : Nat → Int} (h : ∀ j, j < n → f j = g j) : sgnN n f = sgnN n g := by
  induction n with
  | zero => rfl
  | succ n ih =>
    show (if sgnN n f = 0 ∧ f n ≠ 0 then (if f n < 0 then (-1 : Int) else 1) else sgnN n f) = (if sgnN n g = 0 ∧ g n ≠ 0 then (if g n < 0 then (-1 : Int) else 1) else sgnN n g)
    rw [ih fun j hj => h j (by omega), h n (by omega)]
theorem sgnN_or (n : Nat) (f : Nat → Int) : sgnN n f = 0 ∨ sgnN n f = 1 ∨ sgnN n f = -1 := by
  induction n with
  | zero => exact .inl rfl
  | succ n ih =>
    have e : sgnN (n + 1) f = if sgnN n f = 0 ∧ f n ≠ 0 then (if f n < 0 then (-1 : Int) else 1) else sgnN n f := rfl
    rw [e]
    by_cases h : sgnN n f = 0 ∧ f n ≠ 0
    · rw [if_pos h]
      by_cases h2 : f n < 0
      · rw [if_pos h2]; exact .inr (.inr rfl)
      · rw [if_neg h2]; exact .inr (.inl rfl)
    · rw [if_neg h]; exact ih
theorem sgnN_none {n : Nat} {f : Nat → Int} : sgnN n f = 0 → ∀ j, j < n → f j = 0 := by
  induction n with
  | zero => intro _ j hj; omega
  | succ n ih =>
    intro h j hj
    have h' : (if sgnN n f = 0 ∧ f n ≠ 0 then (if f n < 0 then (-1 : Int) else 1) else sgnN n f) = 0 := h
    by_cases hc : sgnN n f = 0 ∧ f n ≠ 0
    · rw [if_pos hc] at h'
      split at h' <;> cases h'
    · rw [if_neg hc] at h'
      rcases Nat.lt_or_ge j n with h1 | h1
      · exact ih h' j h1
      · obtain rfl : j = n := by omega
        exact Classical.byContradiction fun h2 => hc ⟨h', h2⟩
theorem sgnN_all {n : Nat} {f : Nat → Int} (h : ∀ j, j < n → f j = 0) : sgnN n f = 0 := by
  induction n with
  | zero => rfl
  | succ n ih =>
    show (if sgnN n f = 0 ∧ f n ≠ 0 then (if f n < 0 then (-1 : Int) else 1) else sgnN n f) = 0
    rw [if_neg (fun hc => hc.2 (h n (by omega)))]
    exact ih fun j hj => h j (by omega)
/-- The sign is that of the first one. -/
theorem sgnN_first {n : Nat} {f : Nat → Int} {j : Nat} (hj : j < n) (h0 : ∀ i, i < j → f i = 0) (hn : f j ≠ 0) : sgnN n f = if f j < 0 then -1 else 1 := by
  induction n with
  | zero => omega
  | succ n ih =>
    show (if sgnN n f = 0 ∧ f n ≠ 0 then (if f n < 0 then (-1 : Int) else 1) else sgnN n f) = _
    rcases Nat.lt_or_ge j n with h | h
    · have e := ih h
      rw [if_neg (fun hc => by rw [e] at hc; have := hc.1; split at this <;> cases this)]
      exact e
    · obtain rfl : j = n := by omega
      rw [if_pos ⟨sgnN_all h0, hn⟩]
/-- A row without its divisor, with its sign. -/
def prV (c : Nat) (v : Nat → Int) : Nat → Int := fun j => if gcdN c v = 0 then v j else (sgnN c v * v j).tdiv (gcdN c v)
theorem prV_congr {c : Nat} {u v : Nat → Int} (h : ∀ j, j < c → u j = v j) : ∀ j, j < c → prV c u j = prV c v j := fun j hj => by
  unfold prV
  rw [gcdN_congr h, sgnN_congr h, h j hj]
/-- A row whose divisor is 1 (or 0) and whose first number that is not 0 is positive. -/
def Norm (c : Nat) (v : Nat → Int) : Prop := (gcdN c v = 0 ∨ gcdN c v = 1) ∧ (sgnN c v = 0 ∨ sgnN c v = 1)
theorem Norm.congr {c : Nat} {u v : Nat → Int} (h : Norm c u) (e : ∀ j, j < c → v j = u j) : Norm c v := by
  unfold Norm at *
  rw [gcdN_congr e, sgnN_congr e]
  exact h
theorem prV_mul {c : Nat} {v : Nat → Int} {j : Nat} (hj : j < c) (hg : gcdN c v ≠ 0) : gcdN c v * prV c v j = sgnN c v * v j := by
  unfold prV
  rw [if_neg hg]
  exact Int.mul_tdiv_cancel' (Int.dvd_trans (gcdN_dvd j hj) (Int.dvd_mul_left _ _))
theorem prV_id {c : Nat} {v : Nat → Int} (h : Norm c v) {j : Nat} (hj : j < c) : prV c v j = v j := by
  by_cases hg : gcdN c v = 0
  · unfold prV; rw [if_pos hg]
  · have h1 : gcdN c v = 1 := h.1.resolve_left hg
    have hs : sgnN c v = 1 := h.2.resolve_left (fun e => hg (gcdN_all (sgnN_none e)))
    have := prV_mul hj hg
    rw [h1, hs, Int.one_mul, Int.one_mul] at this
    exact this
theorem sgnN_ne {c : Nat} {v : Nat → Int} (hg : gcdN c v ≠ 0) : sgnN c v ≠ 0 := fun e => hg (gcdN_all (sgnN_none e))
theorem prV_zero {c : Nat} {v : Nat → Int} {j : Nat} (hj : j < c) : prV c v j = 0 ↔ v j = 0 := by
  by_cases hg : gcdN c v = 0
  · unfold prV; rw [if_pos hg]
  · have e := prV_mul hj hg
    have hs := sgnN_ne hg
    constructor
    · intro h
      rw [h, Int.mul_zero] at e
      rcases Int.mul_eq_zero.mp e.symm with h1 | h1
      · exact absurd h1 hs
      · exact h1
    · intro h
      rw [h, Int.mul_zero] at e
      rcases Int.mul_eq_zero.mp e with h1 | h1
      · exact absurd h1 hg
      · exact h1
theorem exists_first {c : Nat} {v : Nat → Int} (h : ∃ j, j < c ∧ v j ≠ 0) : ∃ j, j < c ∧ v j ≠ 0 ∧ ∀ i, i < j → v i = 0 := by
  obtain ⟨j, hj, hv⟩ := h
  induction j using Nat.strongRecOn with
  | ind j ih =>
    by_cases h : ∃ i, i < j ∧ v i ≠ 0
    · obtain ⟨i, hi, hvi⟩ := h
      exact ih i hi (by omega) hvi
    · exact ⟨j, hj, hv, fun i hi => Classical.byContradiction fun h1 => h ⟨i, hi, h1⟩⟩
theorem prV_norm (c : Nat) (v : Nat → Int) : Norm c (prV c v) := by
  by_cases hg : gcdN c v = 0
  · have h0 := gcdN_none hg
    have h1 : ∀ j, j < c → prV c v j = 0 := fun j hj => (prV_zero hj).mpr (h0 j hj)
    exact ⟨.inl (gcdN_all h1), .inl (sgnN_all h1)⟩
  · have g0 := gcdN_nonneg c v
    have hs := sgnN_ne hg
    have hne : ∃ j, j < c ∧ v j ≠ 0 := Classical.byContradiction fun hn => hg (gcdN_all fun j hj => Classical.byContradiction fun h1 => hn ⟨j, hj, h1⟩)
    refine ⟨.inr ?_, .inr ?_⟩
    · -- the product of both divisors divides all
      obtain ⟨e, he⟩ : ∃ e, gcdN c (prV c v) = e := ⟨_, rfl⟩
      have e0 := gcdN_nonneg c (prV c v)
      have hd : gcdN c v * e ∣ gcdN c v := gcdN_max fun j hj => by
        obtain ⟨q, hq⟩ := gcdN_dvd (f := prV c v) j hj
        have := prV_mul hj hg
        rw [hq, he] at this
        rcases sgnN_or c v with h1 | h1 | h1
        · exact absurd h1 hs
        · rw [h1, Int.one_mul] at this
          exact ⟨q, by rw [← this]; grind⟩
        · rw [h1] at this
          exact ⟨-q, by grind⟩
      obtain ⟨k, hk⟩ := hd
      have h1 : gcdN c v * (e * k) = gcdN c v * 1 := by rw [Int.mul_one, ← Int.mul_assoc]; exact hk.symm
      have h2 : e * k = 1 := Int.eq_of_mul_eq_mul_left hg h1
      rw [he] at e0 ⊢
      exact Int.eq_one_of_mul_eq_one_right e0 h2
    · obtain ⟨j, hj, hvj, h0⟩ := exists_first hne
      have hp : prV c v j ≠ 0 := fun e => hvj ((prV_zero hj).mp e)
      rw [sgnN_first hj (fun i hi => (prV_zero (by omega)).mpr (h0 i hi)) hp]
      have e := prV_mul hj hg
      have es := sgnN_first hj h0 hvj
      rw [es] at e
      rw [if_neg]
      intro hneg
      have hl : gcdN c v * prV c v j < 0 := Int.mul_neg_of_pos_of_neg (by omega) hneg
      split at e <;> omega
theorem prV_num {c : Nat} {v : Nat → Int} (h : ∀ j, j < c → NumP (v j)) {j : Nat} (hj : j < c) : NumP (prV c v j) := by
  unfold prV
  split
  · exact h j hj
  · have hb := h j hj
    have g0 := gcdN_nonneg c v
    obtain ⟨x, hx⟩ : ∃ x, sgnN c v * v j = x := ⟨_, rfl⟩
    have hxb : NumP x := by
      rw [← hx]
      unfold NumP at hb ⊢
      rcases sgnN_or c v with h1 | h1 | h1 <;> rw [h1] <;> omega
    rw [hx]
    unfold NumP at hxb ⊢
    have : (x.tdiv (gcdN c v)).natAbs ≤ x.natAbs := by
      rw [Int.natAbs_tdiv]
      exact Nat.div_le_self _ _
    omega
/-- A row and the primitive one span the same. -/
theorem prV_in {r c i : Nat} {A : Mx} (hi : i < r) {v : Nat → Int} (h : ∀ j, j < c → A i j = v j) : InSp r c A (prV c v) := by
  by_cases hg : gcdN c v = 0
  · exact (InSp.row hi).congr fun j hj => by unfold prV; rw [if_pos hg, h j hj]
  · refine InSp.of_mul hg (((InSp.row (c := c) hi).add (InSp.zero r c A) (sgnN c v) 0).congr fun j hj => ?_)
    rw [prV_mul hj hg, h j hj]; simp
theorem of_prV {r c i : Nat} {A : Mx} (hi : i < r) {v : Nat → Int} (h : ∀ j, j < c → A i j = prV c v j) : InSp r c A v := by
  by_cases hg : gcdN c v = 0
  · exact (InSp.row hi).congr fun j hj => by rw [h j hj]; unfold prV; rw [if_pos hg]
  · refine InSp.of_mul (sgnN_ne hg) (((InSp.row (c := c) hi).add (InSp.zero r c A) (gcdN c v) 0).congr fun j hj => ?_)
    rw [h j hj, ← prV_mul hj hg]; simp
theorem Norm.prim {c : Nat} {v : Nat → Int} (h : Norm c v) {j : Nat} (hj : j < c) (hv : v j ≠ 0) : Prim c v := fun g hg hd => by
  have h1 : gcdN c v = 1 := h.1.resolve_left (fun e => hv (gcdN_none e j hj))
  have := gcdN_max hd
  rw [h1] at this
  have := Int.le_of_dvd (by decide) this
  omega
theorem Norm.pos {c : Nat} {v : Nat → Int} (h : Norm c v) {j : Nat} (hj : j < c) (h0 : ∀ i, i < j → v i = 0) (hv : v j ≠ 0) : 0 < v j := by
  have e := sgnN_first hj h0 hv
  have hs : sgnN c v = 1 := h.2.resolve_left (fun e => hv (sgnN_none e j hj))
  rw [hs] at e
  split at e
  · cases e
  · omega
end Go.Proofs.Ytpknondccajinaa
