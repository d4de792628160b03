/-
  Plain mathematics of chapter 10: what its functions answer. Nothing of a program is used.
-/
import Derived.Test.YtkphlfcbinjknaaReM
import Derived.Test.YtkphlfcbinjknaaRatMath
import Derived.Test.YtkphlfcbinjknaaChiM
import Derived.Test.YtkphlfcbinjknaaModB
import Derived.Test.YtkphlfcbinjknaaMatMath
namespace Go.Proofs.Ytkphlfcbinjknaa

/-! ### IsImage -/
/-- The arguments of IsImage and ResidueOf but for the residue: a ratio, a modulus, no common divisor. -/
def imA (n d m : Int) : Bool := isRat n d && decide (1 ≤ m ∧ m ≤ 400000000) && decide (d.gcd m = 1)
theorem imA_says {n d m : Int} (h : imA n d m = true) : IsRatP n d ∧ (1 ≤ m ∧ m ≤ 400000000) ∧ d.gcd m = 1 := by
  unfold imA isRat at h
  simp only [Bool.and_eq_true, decide_eq_true_eq] at h
  exact ⟨h.1.1, h.1.2, h.2⟩
theorem imA_true {n d m : Int} (h1 : isRat n d = true) (h2 : 1 ≤ m ∧ m ≤ 400000000) (h3 : d.gcd m = 1) : imA n d m = true := by
  unfold imA; rw [h1, decide_eq_true h2, decide_eq_true h3]; rfl
theorem imA_rat {n d m : Int} (h : isRat n d = false) : imA n d m = false := by unfold imA; rw [h]; rfl
theorem imA_mod {n d m : Int} (h : ¬ (1 ≤ m ∧ m ≤ 400000000)) : imA n d m = false := by unfold imA; rw [decide_eq_false h, Bool.and_false]; rfl
theorem imA_gcd {n d m : Int} (h : d.gcd m ≠ 1) : imA n d m = false := by unfold imA; rw [decide_eq_false h, Bool.and_false]
/-- The sizes of what IsImage and ResidueOf calculate. -/
theorem imA_size {n d m : Int} (h : imA n d m = true) : (1 ≤ d ∧ d ≤ 400000000) ∧ NumP n ∧ NumP d ∧ NumP m := by
  obtain ⟨h1, h2, -⟩ := imA_says h
  exact ⟨⟨h1.1, h1.2.1⟩, ⟨h1.2.2.1, h1.2.2.2.1⟩, ⟨by have := h1.1; omega, h1.2.1⟩, ⟨by omega, h2.2⟩⟩
/-- What IsImage answers. -/
def imB (n d a m : Int) : Bool := imA n d m && decide (NumP a) && decide ((a * d - n) % m = 0)
theorem imB_iff {n d a m : Int} : imB n d a m = true ↔ imA n d m = true ∧ NumP a ∧ ImgP n d a m := by
  unfold imB
  simp only [Bool.and_eq_true, decide_eq_true_eq, and_assoc]
  refine and_congr_right fun h => and_congr_right fun _ => ?_
  unfold ImgP Cg
  exact ⟨fun h => Int.dvd_of_emod_eq_zero h, fun h => Int.emod_eq_zero_of_dvd h⟩
theorem imB_no {n d a m : Int} (h : imA n d m = false ∨ ¬ NumP a) : imB n d a m = false := by
  unfold imB
  rcases h with h | h
  · rw [h]; rfl
  · rw [decide_eq_false h, Bool.and_false]; rfl
/-- With the residues multiplied, as the program may do it. -/
theorem imB_eq {n d a m : Int} (h : imA n d m = true) (ha : NumP a) {b : Bool} (hb : b = decide ((a % m * (d % m) - n) % m = 0)) : imB n d a m = b := by
  have hm : 0 < m := by have := (imA_says h).2.1.1; omega
  cases hB : imB n d a m with
  | true => rw [hb, decide_eq_true ((img_iff hm).mpr (imB_iff.mp hB).2.2)]
  | false =>
    rw [hb, decide_eq_false]
    intro hz
    rw [imB_iff.mpr ⟨h, ha, (img_iff hm).mp hz⟩] at hB; cases hB
/-- With the numbers themselves multiplied. -/
theorem imB_eq2 {n d a m : Int} (h : imA n d m = true) (ha : NumP a) {b : Bool} (hb : b = decide ((a * d - n) % m = 0)) : imB n d a m = b := by
  unfold imB; rw [h, decide_eq_true ha, hb]; rfl

/-! ### ResidueOf -/
open Classical in
/-- The residue of a ratio. -/
noncomputable def resV (n d m : Int) : Int := if h : ∃ y : Int, (0 ≤ y ∧ y < m) ∧ ImgP n d y m then h.choose else 0
theorem resV_eq {n d m y : Int} (hg : d.gcd m = 1) (hy : 0 ≤ y ∧ y < m) (h : ImgP n d y m) : resV n d m = y := by
  have hx : ∃ y : Int, (0 ≤ y ∧ y < m) ∧ ImgP n d y m := ⟨y, hy, h⟩
  unfold resV
  rw [dif_pos hx]
  exact ImgP.uniq hg hx.choose_spec.1 hy hx.choose_spec.2 h
/-- What ResidueOf answers. -/
noncomputable def rsX (n d m : Int) : Int × Bool := if imA n d m = true then (resV n d m, true) else (0, false)
theorem rsX_no {n d m : Int} (h : imA n d m = false) : rsX n d m = (0, false) := by
  unfold rsX; rw [h]; rfl
theorem rsX_yes {n d m y : Int} (h : imA n d m = true) (hy : 0 ≤ y ∧ y < m) (hi : ImgP n d y m) : rsX n d m = (y, true) := by
  unfold rsX; rw [if_pos h, resV_eq (imA_says h).2.2 hy hi]
/-- As the extended divisor finds it. -/
theorem rsX_ext {n d m x y g : Int} (h : imA n d m = true) (he : d % m * x + m * y = g) (hg : g = ((d % m).gcd m : Nat)) : rsX n d m = (x % m * (n % m) % m, true) := by
  obtain ⟨-, h2, h3⟩ := imA_says h
  refine rsX_yes h ⟨Int.emod_nonneg _ (by omega), Int.emod_lt_of_pos _ (by omega)⟩ (img_of he ?_)
  rw [hg, gcd_emod, h3]; rfl
/-- There is a residue. -/
theorem rsX_ex {n d m : Int} (h : imA n d m = true) : ∃ y : Int, rsX n d m = (y, true) ∧ (0 ≤ y ∧ y < m) ∧ ImgP n d y m := by
  obtain ⟨h1, h2, h3⟩ := imA_says h
  obtain ⟨x, y, hb⟩ := bez m.toNat d.toNat
  have e1 : (d.toNat : Int) = d := Int.toNat_of_nonneg (by have := h1.1; omega)
  have e2 : (m.toNat : Int) = m := Int.toNat_of_nonneg (by omega)
  have e3 : Nat.gcd d.toNat m.toNat = 1 := by
    rw [← h3, Int.gcd, show d.natAbs = d.toNat by have := h1.1; omega, show m.natAbs = m.toNat by omega]
  rw [e1, e2, e3] at hb
  have hi : ImgP n d (x % m * (n % m) % m) m := by
    refine img_of (y := y + d / m * x) (g := 1) ?_ rfl
    rw [Int.emod_def]
    have : d * x + m * y = 1 := hb
    generalize d / m = q
    grind
  exact ⟨_, rsX_yes h ⟨Int.emod_nonneg _ (by omega), Int.emod_lt_of_pos _ (by omega)⟩ hi, ⟨Int.emod_nonneg _ (by omega), Int.emod_lt_of_pos _ (by omega)⟩, hi⟩
theorem rsX_says {n d m : Int} (h : (rsX n d m).2 = true) : imA n d m = true ∧ (0 ≤ (rsX n d m).1 ∧ (rsX n d m).1 < m) ∧ ImgP n d (rsX n d m).1 m := by
  cases hA : imA n d m with
  | false => rw [rsX_no hA] at h; cases h
  | true =>
    obtain ⟨y, e, h1, h2⟩ := rsX_ex hA
    rw [e]; exact ⟨rfl, h1, h2⟩
theorem rsX_none {n d m : Int} (h : (rsX n d m).2 = false) : rsX n d m = (0, false) := by
  cases hA : imA n d m with
  | false => exact rsX_no hA
  | true =>
    obtain ⟨y, e, -, -⟩ := rsX_ex hA
    rw [e] at h; cases h
/-- The residue of 0. -/
theorem rsX_zero {m : Int} (h : 1 ≤ m ∧ m ≤ 400000000) : rsX 0 1 m = (0, true) := rsX_yes (imA_true (decide_eq_true (by decide)) h (Int.one_gcd ..)) ⟨by omega, by omega⟩ ⟨0, by omega⟩

/-! ### RatioFrom -/
/-- The arguments of RatioFrom. -/
def RtA (a m B : Int) : Prop := NumP a ∧ (1 ≤ m ∧ m ≤ 400000000) ∧ (1 ≤ B ∧ B ≤ 20000) ∧ 2 * B * B < m
instance (a m B : Int) : Decidable (RtA a m B) := by unfold RtA; exact inferInstance
theorem RtA.sq {a m B : Int} (h : RtA a m B) : 2 * (B * B) < m := by rw [← Int.mul_assoc]; exact h.2.2.2
/-- Two ratios with small parts and one residue are one. -/
theorem RatP.uniq {a m B n d n' d' : Int} (hm : 2 * (B * B) < m) (h : RatP a m B n d) (h' : RatP a m B n' d') : n = n' ∧ d = d' := by
  obtain ⟨a1, a2, a3, -, a5⟩ := h
  obtain ⟨b1, b2, b3, -, b5⟩ := h'
  have hc : Cg m (n * d' - n' * d) 0 := by
    have e1 : Cg m (n * d') (a * d * d') := a5.symm.mul (Cg.refl m d')
    have e2 : Cg m (n' * d) (a * d' * d) := b5.symm.mul (Cg.refl m d)
    exact (e1.sub e2).trans (Cg.of_eq (by grind))
  have c1 := mul_abs (a := n) (b := d') (A := B) (B := B) a1 (by omega)
  have c2 := mul_abs (a := n') (b := d) (A := B) (B := B) b1 (by omega)
  have e : n * d' = n' * d := by
    obtain ⟨k, hk⟩ := Cg.zero.mp hc
    have hk0 : k = 0 := by
      rcases Int.lt_trichotomy k 0 with h1 | h1 | h1
      · have := Int.mul_le_mul_of_nonneg_left (show k ≤ -1 by omega) (show 0 ≤ m by omega)
        omega
      · exact h1
      · have := Int.mul_le_mul_of_nonneg_left (show 1 ≤ k from h1) (show 0 ≤ m by omega)
        omega
    rw [hk0, Int.mul_zero] at hk
    omega
  have d1 : d ∣ d' := dvd_of_coprime (b := n) (by rw [e]; exact ⟨n', Int.mul_comm ..⟩) (by rw [Int.gcd_comm]; exact a3)
  have d2 : d' ∣ d := dvd_of_coprime (b := n') (by rw [← e]; exact ⟨n, Int.mul_comm ..⟩) (by rw [Int.gcd_comm]; exact b3)
  have e2 : d = d' := Int.le_antisymm (Int.le_of_dvd b2.1 d1) (Int.le_of_dvd a2.1 d2)
  subst e2
  exact ⟨Int.eq_of_mul_eq_mul_right (by omega) e, rfl⟩
/-- What RatioFrom answers. -/
noncomputable def rtX (a m B : Int) : Int × Int × Bool := if RtA a m B then ratM a m B else (0, 0, false)
theorem rtX_no {a m B : Int} (h : ¬ RtA a m B) : rtX a m B = (0, 0, false) := if_neg h
/-- The start of the steps. -/
theorem RtA.start {a m B : Int} (h : RtA a m B) : RInv m a m 0 (a % m) 1 ∧ B < m := by
  refine ⟨RInv.start (by have := h.2.1.1; omega), ?_⟩
  have h1 := h.sq
  have h2 := Int.mul_le_mul_of_nonneg_right h.2.2.1.1 (show 0 ≤ B by have := h.2.2.1.1; omega)
  have := h.2.2.1.1
  omega
/-- What the steps lead to, checked by IsImage. -/
theorem RatP_iff {a m B n d : Int} (h : RtA a m B) (hn : -B ≤ n ∧ n ≤ B) : RatP a m B n d ↔ d ≤ B ∧ imB n d a m = true := by
  rw [imB_iff]
  have hB := h.2.2.1.2
  constructor
  · rintro ⟨-, h2, h3, h4, h5⟩
    exact ⟨h2.2, imA_true (decide_eq_true ⟨by omega, by omega, by omega, by omega, h3⟩) h.2.1 h4, h.1, h5⟩
  · rintro ⟨h1, h2, -, h4⟩
    obtain ⟨r1, -, r3⟩ := imA_says h2
    exact ⟨hn, ⟨by have := r1.1; omega, h1⟩, r1.2.2.2.2, r3, h4⟩
theorem RInv.ans {m a g x h u B s t : Int} (A : RtA a m B) (I : RInv m a g x h u) (hB : h ≤ B) (gB : B < g) (hs : (if u < 0 then -h else h) = s) (ht : (if u < 0 then -u else u) = t) : rtX a m B = if t ≤ B ∧ imB s t a m = true then (s, t, true) else (0, 0, false) := by
  have hl := I.low
  have hb : -B ≤ s ∧ s ≤ B := by rw [← hs]; split <;> omega
  unfold rtX
  rw [if_pos A]
  split
  · next h1 => exact I.yes hB gB A.sq hs ht ((RatP_iff A hb).mpr h1)
  · next h1 => exact I.no hB gB A.sq hs ht fun h2 => h1 ((RatP_iff A hb).mp h2)
theorem RInv.ans_yes {m a g x h u B s t : Int} (A : RtA a m B) (I : RInv m a g x h u) (hB : h ≤ B) (gB : B < g) (hs : (if u < 0 then -h else h) = s) (ht : (if u < 0 then -u else u) = t) (h1 : t ≤ B) (h2 : imB s t a m = true) : rtX a m B = (s, t, true) := by
  rw [I.ans A hB gB hs ht, if_pos ⟨h1, h2⟩]
theorem RInv.ans_no {m a g x h u B s t : Int} (A : RtA a m B) (I : RInv m a g x h u) (hB : h ≤ B) (gB : B < g) (hs : (if u < 0 then -h else h) = s) (ht : (if u < 0 then -u else u) = t) (h1 : B < t ∨ imB s t a m = false) : rtX a m B = (0, 0, false) := by
  rw [I.ans A hB gB hs ht, if_neg]
  rintro ⟨h2, h3⟩
  rcases h1 with h1 | h1
  · omega
  · rw [h1] at h3; cases h3
/-- A ratio with these parts is what is found. -/
theorem rtX_found {a m B n d : Int} (A : RtA a m B) (h : RatP a m B n d) : rtX a m B = (n, d, true) := by
  have hx : ∃ z : Int × Int, RatP a m B z.1 z.2 := ⟨(n, d), h⟩
  have hB := A.sq
  unfold rtX
  rw [if_pos A]
  unfold ratM
  rw [dif_pos hx]
  have h1 := hx.choose_spec
  have e := RatP.uniq hB h1 h
  rw [e.1, e.2]
theorem rtX_says {a m B : Int} (h : (rtX a m B).2.2 = true) : RtA a m B ∧ RatP a m B (rtX a m B).1 (rtX a m B).2.1 := by
  by_cases A : RtA a m B
  · by_cases hx : ∃ z : Int × Int, RatP a m B z.1 z.2
    · obtain ⟨z, hz⟩ := hx
      rw [rtX_found A hz]; exact ⟨A, hz⟩
    · unfold rtX ratM at h
      rw [if_pos A, dif_neg hx] at h; cases h
  · rw [rtX_no A] at h; cases h

/-! ### What the law of chapter 10 asks -/
theorem re_law {n d m : Int} (h : (rsX n d m).2 = true) : imB n d (rsX n d m).1 m = true ∧ 0 ≤ (rsX n d m).1 ∧ (rsX n d m).1 < m := by
  obtain ⟨h1, h2, h3⟩ := rsX_says h
  have := (imA_says h1).2.1
  exact ⟨imB_iff.mpr ⟨h1, ⟨by omega, by omega⟩, h3⟩, h2⟩
theorem re_back {n d m B : Int} (h : (rsX n d m).2 = true) (hB : B ≤ 20000) (h1 : 1 ≤ B) (hn : (n.natAbs : Int) ≤ B) (hd : d ≤ B) (hm : 2 * B * B < m) : rtX (rsX n d m).1 m B = (n, d, true) := by
  obtain ⟨g1, g2, g3⟩ := rsX_says h
  obtain ⟨r1, r2, r3⟩ := imA_says g1
  exact rtX_found ⟨⟨by omega, by omega⟩, r2, ⟨h1, hB⟩, hm⟩ ⟨⟨by omega, by omega⟩, ⟨by have := r1.1; omega, hd⟩, r1.2.2.2.2, r3, g3⟩
end Go.Proofs.Ytkphlfcbinjknaa
