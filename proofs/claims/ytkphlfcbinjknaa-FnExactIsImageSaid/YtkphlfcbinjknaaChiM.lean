/-
  Plain mathematics of chapter 9: the bound of a determinant by its rows, Chinese remainders, symmetric residues. Nothing of a program is used.
-/
import Derived.Test.YtkphlfcbinjknaaModM
import Derived.Test.YtkphlfcbinjknaaDet2
namespace Go.Proofs.Ytkphlfcbinjknaa

/-! ### Products -/
def prodI (f : Nat → Int) : Nat → Int
  | 0 => 1
  | k + 1 => prodI f k * f k
theorem prodI_congr {f g : Nat → Int} : ∀ {n : Nat}, (∀ i, i < n → f i = g i) → prodI f n = prodI g n
  | 0, _ => rfl
  | n + 1, h => by
    show prodI f n * f n = prodI g n * g n
    rw [prodI_congr fun i hi => h i (by omega), h n (by omega)]
theorem prodI_first (f : Nat → Int) : ∀ n, prodI f (n + 1) = f 0 * prodI (fun i => f (i + 1)) n
  | 0 => by show 1 * f 0 = f 0 * 1; omega
  | n + 1 => by
    show prodI f (n + 1) * f (n + 1) = f 0 * (prodI (fun i => f (i + 1)) n * f (n + 1))
    rw [prodI_first f n, Int.mul_assoc]
theorem prodI_nonneg {f : Nat → Int} : ∀ {n : Nat}, (∀ i, i < n → 0 ≤ f i) → 0 ≤ prodI f n
  | 0, _ => by show (0 : Int) ≤ 1; decide
  | n + 1, h => Int.mul_nonneg (prodI_nonneg fun i hi => h i (by omega)) (h n (by omega))
theorem prodI_pos {f : Nat → Int} : ∀ {n : Nat}, (∀ i, i < n → 0 < f i) → 0 < prodI f n
  | 0, _ => by show (0 : Int) < 1; decide
  | n + 1, h => Int.mul_pos (prodI_pos fun i hi => h i (by omega)) (h n (by omega))
theorem prodI_mono {f g : Nat → Int} : ∀ {n : Nat}, (∀ i, i < n → 0 ≤ f i ∧ f i ≤ g i) → prodI f n ≤ prodI g n
  | 0, _ => Int.le_refl _
  | n + 1, h => Int.mul_le_mul (prodI_mono fun i hi => h i (by omega)) (h n (by omega)).2 (h n (by omega)).1 (prodI_nonneg fun i hi => by have := h i (by omega); omega)
theorem prodI_dvd {f : Nat → Int} : ∀ {n i : Nat}, i < n → f i ∣ prodI f n
  | 0, i, h => by omega
  | n + 1, i, h => by
    rcases Nat.lt_or_ge i n with h1 | h1
    · exact Int.dvd_trans (prodI_dvd h1) (Int.dvd_mul_right _ _)
    · obtain rfl : i = n := by omega
      exact Int.dvd_mul_left _ _

/-! ### The bound of a determinant -/
theorem sumN_le {n : Nat} {f g : Nat → Int} (h : ∀ i, i < n → f i ≤ g i) : sumN n f ≤ sumN n g := by
  induction n with
  | zero => exact Int.le_refl _
  | succ n ih => exact Int.add_le_add (ih fun i hi => h i (by omega)) (h n (by omega))
theorem sumN_nonneg {n : Nat} {f : Nat → Int} (h : ∀ i, i < n → 0 ≤ f i) : 0 ≤ sumN n f := by
  have := sumN_le h
  rw [sumN_zero] at this
  exact this
theorem sumN_abs (n : Nat) (f : Nat → Int) : ((sumN n f).natAbs : Int) ≤ sumN n fun i => ((f i).natAbs : Int) := by
  induction n with
  | zero => exact Int.le_refl _
  | succ n ih =>
    show ((sumN n f + f n).natAbs : Int) ≤ (sumN n fun i => ((f i).natAbs : Int)) + ((f n).natAbs : Int)
    have := Int.natAbs_add_le (sumN n f) (f n)
    omega
/-- Leaving one out of a sum of numbers that are not below 0. -/
theorem sumN_less {f : Nat → Int} (j : Nat) : ∀ n, j < n + 1 → (∀ i, i < n + 1 → 0 ≤ f i) → (sumN n fun k => f (skp j k)) ≤ sumN (n + 1) f := by
  intro n hj h
  have key : ∀ m, m ≤ n → (sumN m fun k => f (skp j k)) + (if j < m then f j - f m else 0) ≤ sumN m f := by
    intro m
    induction m with
    | zero => intro _; rw [if_neg (by omega)]; exact Int.le_refl _
    | succ m ih =>
      intro hm
      have i1 := ih (by omega)
      show (sumN m fun k => f (skp j k)) + f (skp j m) + (if j < m + 1 then f j - f (m + 1) else 0) ≤ sumN m f + f m
      by_cases h1 : j < m
      · rw [if_pos h1] at i1
        have e : skp j m = m + 1 := by unfold skp; rw [if_neg (by omega)]
        rw [if_pos (by omega), e]
        omega
      · rw [if_neg h1] at i1
        by_cases h2 : j = m
        · have e : skp j m = m + 1 := by unfold skp; rw [if_neg (by omega)]
          rw [if_pos (by omega), e]
          have : f j = f m := by rw [h2]
          omega
        · have e : skp j m = m := by unfold skp; rw [if_pos (by omega)]
          rw [if_neg (by omega), e]
          omega
  have k1 := key n (Nat.le_refl n)
  show _ ≤ sumN n f + f n
  have h1 := h j hj
  have h2 := h n (by omega)
  by_cases e : j < n
  · rw [if_pos e] at k1; omega
  · rw [if_neg e] at k1; omega
/-- The sum of the absolute values of a row. -/
def absR (n : Nat) (A : Mx) (i : Nat) : Int := sumN n fun j => ((A i j).natAbs : Int)
theorem absR_nonneg (n : Nat) (A : Mx) (i : Nat) : 0 ≤ absR n A i := sumN_nonneg fun _ _ => Int.natCast_nonneg _
theorem det_bound : ∀ (n : Nat) (A : Mx), ((det n A).natAbs : Int) ≤ prodI (absR n A) n
  | 0, A => by show ((1 : Int).natAbs : Int) ≤ 1; decide
  | n + 1, A => by
    rw [det_row, prodI_first]
    refine Int.le_trans (sumN_abs _ _) ?_
    unfold absR
    rw [sumN_mul]
    refine sumN_le fun j hj => ?_
    have e : ((sg j * A 0 j * det n (mnr A 0 j)).natAbs : Int) = ((A 0 j).natAbs : Int) * ((det n (mnr A 0 j)).natAbs : Int) := by
      rw [Int.natAbs_mul, Int.natAbs_mul]
      have : (sg j).natAbs = 1 := by unfold sg; split <;> rfl
      rw [this, Nat.one_mul, Int.natCast_mul]
    rw [e]
    refine Int.mul_le_mul_of_nonneg_left ?_ (Int.natCast_nonneg _)
    refine Int.le_trans (det_bound n (mnr A 0 j)) (prodI_mono fun i hi => ⟨absR_nonneg _ _ _, ?_⟩)
    show (sumN n fun k => ((mnr A 0 j i k).natAbs : Int)) ≤ sumN (n + 1) fun k => ((A (i + 1) k).natAbs : Int)
    have h0 : skp 0 i = i + 1 := by unfold skp; rw [if_neg (by omega)]
    have := sumN_less (f := fun k => ((A (i + 1) k).natAbs : Int)) j n hj (fun _ _ => Int.natCast_nonneg _)
    refine Int.le_trans (Int.le_of_eq (sumN_congr fun k _ => ?_)) this
    show ((A (skp 0 i) (skp j k)).natAbs : Int) = _
    rw [h0]

/-! ### Chinese remainders -/
theorem cop_mul {a b c : Int} (h : a.gcd b = 1) (ha : a ∣ c) (hb : b ∣ c) : a * b ∣ c := by
  rw [← Int.natAbs_dvd_natAbs, Int.natAbs_mul]
  exact Nat.Coprime.mul_dvd_of_dvd_of_dvd h (Int.natAbs_dvd_natAbs.mpr ha) (Int.natAbs_dvd_natAbs.mpr hb)
/-- Moduli above 1 of which none has a divisor in common with the product of those ahead. -/
def Modu (ms : Nat → Int) (k : Nat) : Prop := ∀ i, i < k → 2 ≤ ms i ∧ (prodI ms i).gcd (ms i) = 1
theorem Modu.pos {ms : Nat → Int} {k : Nat} (h : Modu ms k) : 0 < prodI ms k := prodI_pos fun i hi => by have := (h i hi).1; omega
theorem Modu.less {ms : Nat → Int} {k l : Nat} (h : Modu ms k) (hl : l ≤ k) : Modu ms l := fun i hi => h i (by omega)
/-- What has one residue by each modulus has one by the product. -/
theorem Modu.join {ms : Nat → Int} {a b : Int} : ∀ {k : Nat}, Modu ms k → (∀ i, i < k → Cg (ms i) a b) → Cg (prodI ms k) a b
  | 0, _, _ => ⟨a - b, by show a - b = 1 * (a - b); omega⟩
  | k + 1, h, hc => cop_mul (h k (by omega)).2 (Modu.join (h.less (by omega)) fun i hi => hc i (by omega)) (hc k (by omega))
/-- A number with the residues, less than the product. -/
def ChiP (rs ms : Nat → Int) (k : Nat) (x : Int) : Prop := (0 ≤ x ∧ x < prodI ms k) ∧ ∀ i, i < k → Cg (ms i) x (rs i)
theorem ChiP.zero (rs ms : Nat → Int) : ChiP rs ms 0 0 := ⟨⟨Int.le_refl _, by show (0 : Int) < 1; decide⟩, fun i h => by omega⟩
theorem ChiP.uniq {rs ms : Nat → Int} {k : Nat} {x y : Int} (hm : Modu ms k) (h : ChiP rs ms k x) (h' : ChiP rs ms k y) : x = y :=
  Cg.eq h.1 h'.1 (hm.join fun i hi => (h.2 i hi).trans (h'.2 i hi).symm)
/-- The step: t is what the next modulus asks for. -/
def chT (x r p u : Int) : Int := (r - x) % p * (u % p) % p
theorem chT_can {x r p u : Int} (hp : 0 < p) : 0 ≤ chT x r p u ∧ chT x r p u < p := ⟨Int.emod_nonneg _ (by omega), Int.emod_lt_of_pos _ hp⟩
theorem ChiP.step {rs ms : Nat → Int} {k : Nat} {x u : Int} (h : ChiP rs ms k x) (hp : 0 < ms k) (hP : 0 < prodI ms k) (hu : Cg (ms k) (prodI ms k * u) 1) : ChiP rs ms (k + 1) (x + prodI ms k * chT x (rs k) (ms k) u) := by
  have ht := chT_can (x := x) (r := rs k) (u := u) hp
  have e : Cg (ms k) (chT x (rs k) (ms k) u) ((rs k - x) * u) := (Cg.emod _ _).trans ((Cg.emod _ _).mul (Cg.emod _ _))
  generalize chT x (rs k) (ms k) u = t at ht e ⊢
  refine ⟨⟨?_, ?_⟩, fun i hi => ?_⟩
  · have := Int.mul_nonneg (Int.le_of_lt hP) ht.1
    have := h.1.1
    omega
  · show x + prodI ms k * t < prodI ms k * ms k
    have h1 : prodI ms k * (t + 1) ≤ prodI ms k * ms k := Int.mul_le_mul_of_nonneg_left (by omega) (Int.le_of_lt hP)
    rw [Int.mul_add, Int.mul_one] at h1
    have := h.1.2
    omega
  · rcases Nat.lt_or_ge i k with h1 | h1
    · have d : ms i ∣ prodI ms k * t := Int.dvd_trans (prodI_dvd h1) (Int.dvd_mul_right _ _)
      have := (h.2 i h1).add (Cg.zero.mpr d)
      rw [Int.add_zero] at this
      exact this
    · obtain rfl : i = k := by omega
      have e2 : Cg (ms i) (prodI ms i * t) (prodI ms i * ((rs i - x) * u)) := Cg.mul_left _ e
      have e3 : Cg (ms i) (prodI ms i * ((rs i - x) * u)) ((rs i - x) * 1) := by
        have : prodI ms i * ((rs i - x) * u) = (rs i - x) * (prodI ms i * u) := by grind
        rw [this]
        exact Cg.mul_left _ hu
      have e4 := (Cg.refl (ms i) x).add (e2.trans e3)
      refine e4.trans (Cg.of_eq ?_)
      omega
/-- Nothing overflows: the parts of the step. -/
theorem chT_mul {x r p u : Int} (hp : 0 < p) : 0 ≤ (r - x) % p * (u % p) ∧ (r - x) % p * (u % p) ≤ p * p := by
  have h1 : 0 ≤ (r - x) % p := Int.emod_nonneg _ (by omega)
  have h2 : (r - x) % p < p := Int.emod_lt_of_pos _ hp
  have h3 : 0 ≤ u % p := Int.emod_nonneg _ (by omega)
  have h4 : u % p < p := Int.emod_lt_of_pos _ hp
  exact ⟨Int.mul_nonneg h1 h3, Int.mul_le_mul (by omega) (by omega) h3 (by omega)⟩
/-- The inverse that the step takes: of the residue of the product. -/
theorem chi_inv {P p x y g : Int} (h : P % p * x + p * y = g) (hg : g = 1) : Cg p (P * x) 1 := by
  refine (((Cg.emod p P).symm.mul (Cg.refl p x))).trans ⟨-y, ?_⟩
  rw [Int.mul_neg]
  omega
theorem gcd_emod (P p : Int) : (P % p).gcd p = P.gcd p := by rw [Int.emod_def]; exact Int.gcd_sub_mul_left_left ..

/-! ### Symmetric residues -/
def symM (x m : Int) : Int := if m < 2 * (x % m) then x % m - m else x % m
theorem symM_says {x m : Int} (hm : 0 < m) : Cg m (symM x m) x ∧ 2 * symM x m ≤ m ∧ -m < 2 * symM x m := by
  have h1 : 0 ≤ x % m := Int.emod_nonneg _ (by omega)
  have h2 : x % m < m := Int.emod_lt_of_pos _ hm
  have h3 := Cg.emod m x
  unfold symM
  split
  · refine ⟨?_, by omega, by omega⟩
    have := h3.sub (Cg.zero.mpr (Int.dvd_refl m))
    rw [Int.sub_zero] at this
    exact this
  · exact ⟨h3, by omega, by omega⟩
theorem symM_uniq {x m y : Int} (h : Cg m y x) (h1 : 2 * y ≤ m) (h2 : -m < 2 * y) : symM x m = y := by
  have hm : 0 < m := by omega
  obtain ⟨e1, e2, e3⟩ := symM_says (x := x) hm
  have e := h.trans e1.symm
  generalize symM x m = z at e e1 e2 e3 ⊢
  obtain ⟨k, hk⟩ := e
  have h3 : k < 1 := Int.lt_of_mul_lt_mul_left (a := m) (by rw [Int.mul_one]; omega) (by omega)
  have h4 : -1 < k := Int.lt_of_mul_lt_mul_left (a := m) (by rw [Int.mul_neg, Int.mul_one]; omega) (by omega)
  obtain rfl : k = 0 := by omega
  rw [Int.mul_zero] at hk
  omega

/-! ### Images -/
/-- Different primes are moduli. -/
theorem prm_cop {ms : Nat → Int} {p : Int} (hp : Prm p) : ∀ k, (∀ i, i < k → Prm (ms i) ∧ ms i ≠ p) → ¬ p ∣ prodI ms k
  | 0, _, hd => hp.one hd
  | k + 1, h, hd => by
    rcases hp.mul hd with h1 | h1
    · exact prm_cop hp k (fun i hi => h i (by omega)) h1
    · have h2 := h k (by omega)
      have := hp.1
      rcases h2.1.div (by omega) h1 with h3 | h3
      · omega
      · exact h2.2 h3.symm
theorem Modu.primes {ms : Nat → Int} {k : Nat} (hp : ∀ i, i < k → Prm (ms i)) (hd : ∀ i j, i < j → j < k → ms i ≠ ms j) : Modu ms k := fun i hi => by
  refine ⟨(hp i hi).1, ?_⟩
  have := (hp i hi).gcd (prm_cop (hp i hi) i fun j hj => ⟨hp j (by omega), hd j i hj hi⟩)
  omega
/-- The number with the residues of a small one, brought to the middle, is that one. -/
theorem chi_img {ms : Nat → Int} {k : Nat} {x d b : Int} (hm : Modu ms k) (hx : ChiP (fun i => d % ms i) ms k x) (hb : (d.natAbs : Int) ≤ b) (hP : 2 * b < prodI ms k) : symM x (prodI ms k) = d := by
  refine symM_uniq ?_ (by omega) (by omega)
  exact (hm.join fun i hi => (hx.2 i hi).trans (Cg.emod _ _)).symm
end Go.Proofs.Ytkphlfcbinjknaa
