/-
  Plain mathematics of chapter 10: ratios and their residues, the ratio with small parts that has a residue. Nothing of a program is used.
-/
import Derived.Test.YtkphlfcbinjknaaModM
namespace Go.Proofs.Ytkphlfcbinjknaa

/-! ### The residue of a ratio -/
/-- n / d has the residue y by m. -/
def ImgP (n d y m : Int) : Prop := Cg m (y * d) n
theorem cop_cancel {m d a b : Int} (h : d.gcd m = 1) (hc : Cg m (a * d) (b * d)) : Cg m a b := by
  unfold Cg at *
  rw [← Int.sub_mul] at hc
  rw [← Int.natAbs_dvd_natAbs, Int.natAbs_mul] at hc
  rw [← Int.natAbs_dvd_natAbs]
  have h' : Nat.Coprime m.natAbs d.natAbs := by
    show Nat.gcd m.natAbs d.natAbs = 1
    rw [Nat.gcd_comm]; exact h
  exact Nat.Coprime.dvd_of_dvd_mul_right h' hc
theorem ImgP.uniq {n d y z m : Int} (h : d.gcd m = 1) (hy : 0 ≤ y ∧ y < m) (hz : 0 ≤ z ∧ z < m) (h1 : ImgP n d y m) (h2 : ImgP n d z m) : y = z := Cg.eq hy hz (cop_cancel h (h1.trans h2.symm))
/-- The residue as ResidueOf finds it. -/
theorem img_of {n d m x y g : Int} (h : d % m * x + m * y = g) (hg : g = 1) : ImgP n d (x % m * (n % m) % m) m := by
  have e1 : Cg m (x * d) 1 := by
    refine ((Cg.refl m x).mul (Cg.emod m d).symm).trans ⟨-y, ?_⟩
    rw [Int.mul_neg, Int.mul_comm x]
    omega
  have e2 : Cg m (x % m * (n % m) % m) (x * n) := (Cg.emod m _).trans ((Cg.emod m x).mul (Cg.emod m n))
  have e3 : Cg m (x % m * (n % m) % m * d) (n * (x * d)) := (e2.mul (Cg.refl m d)).trans (Cg.of_eq (by grind))
  exact e3.trans ((Cg.mul_left n e1).trans (Cg.of_eq (Int.mul_one n)))
/-- The check of IsImage. -/
theorem img_iff {n d y m : Int} (hm : 0 < m) : (y % m * (d % m) - n) % m = 0 ↔ ImgP n d y m := by
  have e : Cg m (y % m * (d % m) - n) (y * d - n) := ((Cg.emod m y).mul (Cg.emod m d)).sub (Cg.refl m n)
  rw [Cg.emod_eq hm e]
  unfold ImgP Cg
  exact ⟨fun h => Int.dvd_of_emod_eq_zero h, fun h => Int.emod_eq_zero_of_dvd h⟩

/-! ### The ratio of a residue -/
/-- The steps of RatioFrom: two numbers g > h and their multipliers x, u of a by m; the multipliers' signs are different. -/
structure RInv (m a g x h u : Int) : Prop where
  low : 0 ≤ h
  less : h < g
  gx : Cg m g (x * a)
  hu : Cg m h (u * a)
  sg : (0 < u ∧ x ≤ 0 ∧ g * u - h * x = m) ∨ (u < 0 ∧ 0 ≤ x ∧ g * u - h * x = -m)
theorem RInv.start {m a : Int} (hm : 0 < m) : RInv m a m 0 (a % m) 1 where
  low := Int.emod_nonneg _ (by omega)
  less := Int.emod_lt_of_pos _ hm
  gx := by rw [Int.zero_mul]; exact Cg.zero.mpr (Int.dvd_refl m)
  hu := by rw [Int.one_mul]; exact Cg.emod m a
  sg := .inl ⟨by decide, by decide, by omega⟩
theorem RInv.step {m a g x h u : Int} (I : RInv m a g x h u) (hp : 0 < h) : RInv m a h u (g - g / h * h) (x - g / h * u) := by
  have hq : 1 ≤ g / h := by
    have := Int.ediv_mul_le g (show h ≠ 0 by omega)
    rw [Int.le_ediv_iff_mul_le hp]
    have := I.less
    omega
  have e : g - g / h * h = g % h := by rw [Int.emod_def, Int.mul_comm h]
  have e2 : h * (x - g / h * u) - (g - g / h * h) * u = -(g * u - h * x) := by generalize g / h = q; grind
  refine ⟨?_, ?_, I.hu, ?_, ?_⟩
  · rw [e]; exact Int.emod_nonneg _ (by omega)
  · rw [e]; exact Int.emod_lt_of_pos _ hp
  · have := I.gx.sub (Cg.mul_left (g / h) I.hu)
    refine this.trans (Cg.of_eq ?_)
    rw [Int.sub_mul, Int.mul_assoc]
  · rw [e2]
    generalize g / h = q at hq ⊢
    rcases I.sg with ⟨h1, h2, h3⟩ | ⟨h1, h2, h3⟩
    · right
      have := Int.mul_le_mul_of_nonneg_right hq (show 0 ≤ u by omega)
      refine ⟨by omega, by omega, by omega⟩
    · left
      have := Int.mul_le_mul_of_nonneg_right hq (show 0 ≤ -u by omega)
      simp only [Int.mul_neg, Int.one_mul] at this
      refine ⟨by omega, by omega, by omega⟩
/-- The multipliers stay small. -/
theorem RInv.small {m a g x h u : Int} (I : RInv m a g x h u) : (-m ≤ u ∧ u ≤ m) ∧ (0 < h → -m ≤ x ∧ x ≤ m) := by
  have l := I.low
  have hg : 1 ≤ g := by have := I.less; omega
  rcases I.sg with ⟨h1, h2, h3⟩ | ⟨h1, h2, h3⟩
  · have a1 := Int.mul_le_mul_of_nonneg_right hg (show 0 ≤ u by omega)
    have a2 := Int.mul_nonneg l (show 0 ≤ -x by omega)
    simp only [Int.mul_neg] at a2
    refine ⟨by omega, fun h0 => ?_⟩
    have a3 := Int.mul_le_mul_of_nonneg_right (show 1 ≤ h from h0) (show 0 ≤ -x by omega)
    simp only [Int.mul_neg, Int.one_mul] at a3
    omega
  · have a1 := Int.mul_le_mul_of_nonneg_right hg (show 0 ≤ -u by omega)
    have a2 := Int.mul_nonneg l h2
    simp only [Int.mul_neg, Int.one_mul] at a1
    refine ⟨by omega, fun h0 => ?_⟩
    have a3 := Int.mul_le_mul_of_nonneg_right (show 1 ≤ h from h0) h2
    omega
/-- Nothing overflows in a step. -/
theorem RInv.parts {m a g x h u : Int} (I : RInv m a g x h u) (hp : 0 < h) : (0 ≤ g / h ∧ g / h ≤ g) ∧ (0 ≤ g / h * h ∧ g / h * h ≤ g) ∧ (-m ≤ g / h * u ∧ g / h * u ≤ m) := by
  have hg : 0 ≤ g := by have := I.less; omega
  have hq : 0 ≤ g / h := Int.ediv_nonneg hg (by omega)
  have hs := I.step hp
  refine ⟨⟨hq, Int.ediv_le_self h hg⟩, ⟨Int.mul_nonneg hq (by omega), Int.ediv_mul_le g (by omega)⟩, ?_⟩
  have h4 := hs.small.1
  generalize g / h = q at hq h4 ⊢
  rcases I.sg with ⟨h1, h2, -⟩ | ⟨h1, h2, -⟩
  · have := Int.mul_nonneg hq (show 0 ≤ u by omega)
    omega
  · have := Int.mul_nonneg hq (show 0 ≤ -u by omega)
    rw [Int.mul_neg] at this
    omega
theorem mul_abs {a b A B : Int} (ha : -A ≤ a ∧ a ≤ A) (hb : -B ≤ b ∧ b ≤ B) : -(A * B) ≤ a * b ∧ a * b ≤ A * B := by
  have h : (a * b).natAbs ≤ A.natAbs * B.natAbs := by
    rw [Int.natAbs_mul]
    exact Nat.mul_le_mul (by omega) (by omega)
  have e : ((A.natAbs * B.natAbs : Nat) : Int) = A * B := by
    rw [Int.natCast_mul, Int.natAbs_of_nonneg (by omega), Int.natAbs_of_nonneg (by omega)]
  omega
theorem pos_of_mul {u b : Int} (h : 0 < u * b) (hu : 0 < u) : 0 < b := by
  rcases Int.lt_or_le 0 b with h1 | h1
  · exact h1
  · have := Int.mul_nonneg (show 0 ≤ u by omega) (show 0 ≤ -b by omega)
    rw [Int.mul_neg] at this
    omega
/-- A ratio with the residue a and small parts is what the steps come to: where the multiplier is above 0. -/
theorem ratio_pos {m a g x h u B n d : Int} (hh : 0 ≤ h) (gx : Cg m g (x * a)) (hu : Cg m h (u * a)) (up : 0 < u) (xn : x ≤ 0) (dt : g * u - h * x = m) (hB : h ≤ B) (gB : B < g) (hm : 2 * (B * B) < m) (hn : -B ≤ n ∧ n ≤ B) (hd : 0 < d ∧ d ≤ B) (hg : n.gcd d = 1) (hi : Cg m (a * d) n) : h = n ∧ u = d := by
  have hmp : 0 < m := by have := Int.mul_nonneg (show 0 ≤ B by omega) (show 0 ≤ B by omega); omega
  obtain ⟨k, hk⟩ : m ∣ n * u - d * h := by
    have e1 : Cg m (n * u) (a * d * u) := hi.symm.mul (Cg.refl m u)
    have e2 : Cg m (d * h) (d * (u * a)) := Cg.mul_left d hu
    exact e1.trans ((Cg.of_eq (by grind)).trans e2.symm)
  obtain ⟨l, hl⟩ : m ∣ g * d - x * n := by
    have e1 : Cg m (g * d) (x * a * d) := gx.mul (Cg.refl m d)
    have e2 : Cg m (x * n) (x * (a * d)) := Cg.mul_left x hi.symm
    exact e1.trans ((Cg.of_eq (by grind)).trans e2.symm)
  have en : n = g * k + h * l := by
    refine Int.eq_of_mul_eq_mul_left (show m ≠ 0 by omega) ?_
    have e1 : (g * u - h * x) * n = g * (n * u - d * h) + h * (g * d - x * n) := by grind
    rw [dt, hk, hl] at e1
    rw [e1]
    grind
  have ed : d = x * k + u * l := by
    refine Int.eq_of_mul_eq_mul_left (show m ≠ 0 by omega) ?_
    have e1 : (g * u - h * x) * d = x * (n * u - d * h) + u * (g * d - x * n) := by grind
    rw [dt, hk, hl] at e1
    rw [e1]
    grind
  have hk0 : k = 0 := by
    rcases Int.lt_trichotomy k 0 with h1 | h1 | h1
    · exfalso
      have b1 := Int.mul_le_mul_of_nonneg_left (show 1 ≤ -k by omega) (show 0 ≤ g by omega)
      have b3 := Int.mul_le_mul_of_nonneg_left (show 1 ≤ -k by omega) (show 0 ≤ m by omega)
      have b2 := Int.mul_nonneg (show 0 ≤ -x by omega) (show 0 ≤ -k by omega)
      simp only [Int.mul_neg, Int.neg_mul, Int.mul_one] at b1 b2 b3
      rcases Int.lt_or_le 0 l with h2 | h2
      · have c1 := Int.mul_le_mul_of_nonneg_left (show 1 ≤ l from h2) (show 0 ≤ u by omega)
        have c2 := mul_abs (a := n) (b := u) (A := B) (B := B) (by omega) (by omega)
        have c3 := mul_abs (a := d) (b := h) (A := B) (B := B) (by omega) (by omega)
        omega
      · have c1 := Int.mul_nonneg hh (show 0 ≤ -l by omega)
        simp only [Int.mul_neg] at c1
        omega
    · exact h1
    · exfalso
      have b1 := Int.mul_le_mul_of_nonneg_left (show 1 ≤ k from h1) (show 0 ≤ g by omega)
      have b2 := Int.mul_nonneg (show 0 ≤ -x by omega) (show 0 ≤ k by omega)
      simp only [Int.neg_mul, Int.mul_one] at b1 b2
      rcases Int.lt_or_le l 0 with h2 | h2
      · have c1 := Int.mul_le_mul_of_nonneg_left (show 1 ≤ -l by omega) (show 0 ≤ u by omega)
        simp only [Int.mul_neg, Int.mul_one] at c1
        omega
      · have c1 := Int.mul_nonneg hh h2
        omega
  subst hk0
  rw [Int.mul_zero, Int.zero_add] at en ed
  have hl0 : 0 < l := pos_of_mul (by omega) up
  have hl1 : l = 1 := by
    have g1 : l ∣ n := ⟨h, by rw [en, Int.mul_comm]⟩
    have g2 : l ∣ d := ⟨u, by rw [ed, Int.mul_comm]⟩
    have := Int.dvd_coe_gcd g1 g2
    rw [hg] at this
    have := Int.le_of_dvd (by decide) this
    omega
  rw [hl1, Int.mul_one] at en ed
  exact ⟨en.symm, ed.symm⟩
/-- A ratio with the residue a and small parts is what the steps come to. -/
theorem RInv.found {m a g x h u B n d : Int} (I : RInv m a g x h u) (hB : h ≤ B) (gB : B < g) (hm : 2 * (B * B) < m) (hn : -B ≤ n ∧ n ≤ B) (hd : 0 < d ∧ d ≤ B) (hg : n.gcd d = 1) (hi : Cg m (a * d) n) : (0 < u ∧ h = n ∧ u = d) ∨ (u < 0 ∧ -h = n ∧ -u = d) := by
  rcases I.sg with ⟨h1, h2, h3⟩ | ⟨h1, h2, h3⟩
  · exact .inl ⟨h1, ratio_pos I.low I.gx I.hu h1 h2 h3 hB gB hm hn hd hg hi⟩
  · have := ratio_pos (a := -a) (x := -x) (u := -u) (n := -n) I.low (by rw [Int.neg_mul_neg]; exact I.gx) (by rw [Int.neg_mul_neg]; exact I.hu) (by omega) (by omega) (by rw [Int.mul_neg, Int.mul_neg]; omega) hB gB hm (by omega) hd (by rw [Int.neg_gcd]; exact hg) (by rw [Int.neg_mul]; exact hi.neg)
    exact .inr ⟨h1, by omega, this.2⟩
/-- A ratio with small parts that has the residue a by m. -/
def RatP (a m B n d : Int) : Prop := (-B ≤ n ∧ n ≤ B) ∧ (0 < d ∧ d ≤ B) ∧ n.gcd d = 1 ∧ d.gcd m = 1 ∧ Cg m (a * d) n
open Classical in
/-- What RatioFrom gives. -/
noncomputable def ratM (a m B : Int) : Int × Int × Bool := if h : ∃ z : Int × Int, RatP a m B z.1 z.2 then (h.choose.1, h.choose.2, true) else (0, 0, false)
/-- The end of the steps, its multiplier above 0. -/
theorem RInv.end_ {m a g x h u B n d : Int} (I : RInv m a g x h u) (hB : h ≤ B) (gB : B < g) (hm : 2 * (B * B) < m) (hr : RatP a m B n d) : (if u < 0 then -h else h) = n ∧ (if u < 0 then -u else u) = d := by
  rcases I.found hB gB hm hr.1 hr.2.1 hr.2.2.1 hr.2.2.2.2 with ⟨h1, h2, h3⟩ | ⟨h1, h2, h3⟩
  · rw [if_neg (by omega), if_neg (by omega)]; exact ⟨h2, h3⟩
  · rw [if_pos h1, if_pos h1]; exact ⟨h2, h3⟩
theorem RInv.yes {m a g x h u B s t : Int} (I : RInv m a g x h u) (hB : h ≤ B) (gB : B < g) (hm : 2 * (B * B) < m) (hs : (if u < 0 then -h else h) = s) (ht : (if u < 0 then -u else u) = t) (hr : RatP a m B s t) : ratM a m B = (s, t, true) := by
  have hx : ∃ z : Int × Int, RatP a m B z.1 z.2 := ⟨(s, t), hr⟩
  unfold ratM
  rw [dif_pos hx]
  have := I.end_ hB gB hm hx.choose_spec
  rw [hs, ht] at this
  rw [← this.1, ← this.2]
theorem RInv.no {m a g x h u B s t : Int} (I : RInv m a g x h u) (hB : h ≤ B) (gB : B < g) (hm : 2 * (B * B) < m) (hs : (if u < 0 then -h else h) = s) (ht : (if u < 0 then -u else u) = t) (hr : ¬ RatP a m B s t) : ratM a m B = (0, 0, false) := by
  unfold ratM
  rw [dif_neg]
  rintro ⟨z, hz⟩
  have := I.end_ hB gB hm hz
  rw [hs, ht] at this
  rw [← this.1, ← this.2] at hz
  exact hr hz
end Go.Proofs.Ytkphlfcbinjknaa
