/-
  Texts of this seat, joined: ChiM · SolR · WoMath · RowsOwn · Wo · Det3 · DetL · DetS · Sq · DetO · UptoMath · MulMath · StepL · SameMath · TurnMath · RingMath · MatDone · Row4
-/
import Derived.IntWalk
import Derived.Deep.RegionHeld3
import Derived.Deep.DeepCutAuto
import Derived.Test.YtcapddcmnjeloaaRows
import Derived.Test.YtcapddcmnjeloaaPk1
import Derived.Test.YtcapddcmnjeloaaPk2
import Derived.Test.YtcapddcmnjeloaaPk3

section
/-
  Plain mathematics of chapter 9: the bound of a determinant by its rows, Chinese remainders, symmetric residues. Nothing of a program is used.
-/
namespace Go.Proofs.Ytcapddcmnjeloaa

/-! ### Products -/
def prodI (f : Nat → Int) : Nat → Int
  | 0 => 1
  | k + 1 => prodI f k * f k
theorem prodI_congr {f g : Nat → Int} : ∀ {n : Nat}, (∀ i, i < n → f i = g i) → prodI f n = prodI g n
  | 0, _ => rfl
  | n + 1, h => by
    show prodI f n * f n = prodI g n * g n
    rw [prodI_congr fun i hi => h i (by omega), h n (by omega)]
theorem prodI_first (f : Nat → Int) : ∀ n, prodI f (n + 1) = f 0 * prodI (fun i => f (i + 1)) n
  | 0 => by show 1 * f 0 = f 0 * 1; omega
  | n + 1 => by
    show prodI f (n + 1) * f (n + 1) = f 0 * (prodI (fun i => f (i + 1)) n * f (n + 1))
    rw [prodI_first f n, Int.mul_assoc]
theorem prodI_nonneg {f : Nat → Int} : ∀ {n : Nat}, (∀ i, i < n → 0 ≤ f i) → 0 ≤ prodI f n
  | 0, _ => by show (0 : Int) ≤ 1; decide
  | n + 1, h => Int.mul_nonneg (prodI_nonneg fun i hi => h i (by omega)) (h n (by omega))
theorem prodI_pos {f : Nat → Int} : ∀ {n : Nat}, (∀ i, i < n → 0 < f i) → 0 < prodI f n
  | 0, _ => by show (0 : Int) < 1; decide
  | n + 1, h => Int.mul_pos (prodI_pos fun i hi => h i (by omega)) (h n (by omega))
theorem prodI_mono {f g : Nat → Int} : ∀ {n : Nat}, (∀ i, i < n → 0 ≤ f i ∧ f i ≤ g i) → prodI f n ≤ prodI g n
  | 0, _ => Int.le_refl _
  | n + 1, h => Int.mul_le_mul (prodI_mono fun i hi => h i (by omega)) (h n (by omega)).2 (h n (by omega)).1 (prodI_nonneg fun i hi => by have := h i (by omega); omega)
theorem prodI_dvd {f : Nat → Int} : ∀ {n i : Nat}, i < n → f i ∣ prodI f n
  | 0, i, h => by omega
  | n + 1, i, h => by
    rcases Nat.lt_or_ge i n with h1 | h1
    · exact Int.dvd_trans (prodI_dvd h1) (Int.dvd_mul_right _ _)
    · obtain rfl : i = n := by omega
      exact Int.dvd_mul_left _ _

/-! ### The bound of a determinant -/
theorem sumN_le {n : Nat} {f g : Nat → Int} (h : ∀ i, i < n → f i ≤ g i) : sumN n f ≤ sumN n g := by
  induction n with
  | zero => exact Int.le_refl _
  | succ n ih => exact Int.add_le_add (ih fun i hi => h i (by omega)) (h n (by omega))
theorem sumN_nonneg {n : Nat} {f : Nat → Int} (h : ∀ i, i < n → 0 ≤ f i) : 0 ≤ sumN n f := by
  have := sumN_le h
  rw [sumN_zero] at this
  exact this
theorem sumN_abs (n : Nat) (f : Nat → Int) : ((sumN n f).natAbs : Int) ≤ sumN n fun i => ((f i).natAbs : Int) := by
  induction n with
  | zero => exact Int.le_refl _
  | succ n ih =>
    show ((sumN n f + f n).natAbs : Int) ≤ (sumN n fun i => ((f i).natAbs : Int)) + ((f n).natAbs : Int)
    have := Int.natAbs_add_le (sumN n f) (f n)
    omega
/-- Leaving one out of a sum of numbers that are not below 0. -/
theorem sumN_less {f : Nat → Int} (j : Nat) : ∀ n, j < n + 1 → (∀ i, i < n + 1 → 0 ≤ f i) → (sumN n fun k => f (skp j k)) ≤ sumN (n + 1) f := by
  intro n hj h
  have key : ∀ m, m ≤ n → (sumN m fun k => f (skp j k)) + (if j < m then f j - f m else 0) ≤ sumN m f := by
    intro m
    induction m with
    | zero => intro _; rw [if_neg (by omega)]; exact Int.le_refl _
    | succ m ih =>
      intro hm
      have i1 := ih (by omega)
      show (sumN m fun k => f (skp j k)) + f (skp j m) + (if j < m + 1 then f j - f (m + 1) else 0) ≤ sumN m f + f m
      by_cases h1 : j < m
      · rw [if_pos h1] at i1
        have e : skp j m = m + 1 := by unfold skp; rw [if_neg (by omega)]
        rw [if_pos (by omega), e]
        omega
      · rw [if_neg h1] at i1
        by_cases h2 : j = m
        · have e : skp j m = m + 1 := by unfold skp; rw [if_neg (by omega)]
          rw [if_pos (by omega), e]
          have : f j = f m := by rw [h2]
          omega
        · have e : skp j m = m := by unfold skp; rw [if_pos (by omega)]
          rw [if_neg (by omega), e]
          omega
  have k1 := key n (Nat.le_refl n)
  show _ ≤ sumN n f + f n
  have h1 := h j hj
  have h2 := h n (by omega)
  by_cases e : j < n
  · rw [if_pos e] at k1; omega
  · rw [if_neg e] at k1; omega
/-- The sum of the absolute values of a row. -/
def absR (n : Nat) (A : Mx) (i : Nat) : Int := sumN n fun j => ((A i j).natAbs : Int)
theorem absR_nonneg (n : Nat) (A : Mx) (i : Nat) : 0 ≤ absR n A i := sumN_nonneg fun _ _ => Int.natCast_nonneg _
theorem det_bound : ∀ (n : Nat) (A : Mx), ((det n A).natAbs : Int) ≤ prodI (absR n A) n
  | 0, A => by show ((1 : Int).natAbs : Int) ≤ 1; decide
  | n + 1, A => by
    rw [det_row, prodI_first]
    refine Int.le_trans (sumN_abs _ _) ?_
    unfold absR
    rw [sumN_mul]
    refine sumN_le fun j hj => ?_
    have e : ((sg j * A 0 j * det n (mnr A 0 j)).natAbs : Int) = ((A 0 j).natAbs : Int) * ((det n (mnr A 0 j)).natAbs : Int) := by
      rw [Int.natAbs_mul, Int.natAbs_mul]
      have : (sg j).natAbs = 1 := by unfold sg; split <;> rfl
      rw [this, Nat.one_mul, Int.natCast_mul]
    rw [e]
    refine Int.mul_le_mul_of_nonneg_left ?_ (Int.natCast_nonneg _)
    refine Int.le_trans (det_bound n (mnr A 0 j)) (prodI_mono fun i hi => ⟨absR_nonneg _ _ _, ?_⟩)
    show (sumN n fun k => ((mnr A 0 j i k).natAbs : Int)) ≤ sumN (n + 1) fun k => ((A (i + 1) k).natAbs : Int)
    have h0 : skp 0 i = i + 1 := by unfold skp; rw [if_neg (by omega)]
    have := sumN_less (f := fun k => ((A (i + 1) k).natAbs : Int)) j n hj (fun _ _ => Int.natCast_nonneg _)
    refine Int.le_trans (Int.le_of_eq (sumN_congr fun k _ => ?_)) this
    show ((A (skp 0 i) (skp j k)).natAbs : Int) = _
    rw [h0]

/-! ### Chinese remainders -/
theorem cop_mul {a b c : Int} (h : a.gcd b = 1) (ha : a ∣ c) (hb : b ∣ c) : a * b ∣ c := by
  rw [← Int.natAbs_dvd_natAbs, Int.natAbs_mul]
  exact Nat.Coprime.mul_dvd_of_dvd_of_dvd h (Int.natAbs_dvd_natAbs.mpr ha) (Int.natAbs_dvd_natAbs.mpr hb)
/-- Moduli above 1 of which none has a divisor in common with the product of those ahead. -/
def Modu (ms : Nat → Int) (k : Nat) : Prop := ∀ i, i < k → 2 ≤ ms i ∧ (prodI ms i).gcd (ms i) = 1
theorem Modu.pos {ms : Nat → Int} {k : Nat} (h : Modu ms k) : 0 < prodI ms k := prodI_pos fun i hi => by have := (h i hi).1; omega
theorem Modu.less {ms : Nat → Int} {k l : Nat} (h : Modu ms k) (hl : l ≤ k) : Modu ms l := fun i hi => h i (by omega)
/-- What has one residue by each modulus has one by the product. -/
theorem Modu.join {ms : Nat → Int} {a b : Int} : ∀ {k : Nat}, Modu ms k → (∀ i, i < k → Cg (ms i) a b) → Cg (prodI ms k) a b
  | 0, _, _ => ⟨a - b, by show a - b = 1 * (a - b); omega⟩
  | k + 1, h, hc => cop_mul (h k (by omega)).2 (Modu.join (h.less (by omega)) fun i hi => hc i (by omega)) (hc k (by omega))
/-- A number with the residues, less than the product. -/
def ChiP (rs ms : Nat → Int) (k : Nat) (x : Int) : Prop := (0 ≤ x ∧ x < prodI ms k) ∧ ∀ i, i < k → Cg (ms i) x (rs i)
theorem ChiP.zero (rs ms : Nat → Int) : ChiP rs ms 0 0 := ⟨⟨Int.le_refl _, by show (0 : Int) < 1; decide⟩, fun i h => by omega⟩
theorem ChiP.uniq {rs ms : Nat → Int} {k : Nat} {x y : Int} (hm : Modu ms k) (h : ChiP rs ms k x) (h' : ChiP rs ms k y) : x = y :=
  Cg.eq h.1 h'.1 (hm.join fun i hi => (h.2 i hi).trans (h'.2 i hi).symm)
/-- The step: t is what the next modulus asks for. -/
def chT (x r p u : Int) : Int := (r - x) % p * (u % p) % p
theorem chT_can {x r p u : Int} (hp : 0 < p) : 0 ≤ chT x r p u ∧ chT x r p u < p := ⟨Int.emod_nonneg _ (by omega), Int.emod_lt_of_pos _ hp⟩
theorem ChiP.step {rs ms : Nat → Int} {k : Nat} {x u : Int} (h : ChiP rs ms k x) (hp : 0 < ms k) (hP : 0 < prodI ms k) (hu : Cg (ms k) (prodI ms k * u) 1) : ChiP rs ms (k + 1) (x + prodI ms k * chT x (rs k) (ms k) u) := by
  have ht := chT_can (x := x) (r := rs k) (u := u) hp
  have e : Cg (ms k) (chT x (rs k) (ms k) u) ((rs k - x) * u) := (Cg.emod _ _).trans ((Cg.emod _ _).mul (Cg.emod _ _))
  generalize chT x (rs k) (ms k) u = t at ht e ⊢
  refine ⟨⟨?_, ?_⟩, fun i hi => ?_⟩
  · have := Int.mul_nonneg (Int.le_of_lt hP) ht.1
    have := h.1.1
    omega
  · show x + prodI ms k * t < prodI ms k * ms k
    have h1 : prodI ms k * (t + 1) ≤ prodI ms k * ms k := Int.mul_le_mul_of_nonneg_left (by omega) (Int.le_of_lt hP)
    rw [Int.mul_add, Int.mul_one] at h1
    have := h.1.2
    omega
  · rcases Nat.lt_or_ge i k with h1 | h1
    · have d : ms i ∣ prodI ms k * t := Int.dvd_trans (prodI_dvd h1) (Int.dvd_mul_right _ _)
      have := (h.2 i h1).add (Cg.zero.mpr d)
      rw [Int.add_zero] at this
      exact this
    · obtain rfl : i = k := by omega
      have e2 : Cg (ms i) (prodI ms i * t) (prodI ms i * ((rs i - x) * u)) := Cg.mul_left _ e
      have e3 : Cg (ms i) (prodI ms i * ((rs i - x) * u)) ((rs i - x) * 1) := by
        have : prodI ms i * ((rs i - x) * u) = (rs i - x) * (prodI ms i * u) := by grind
        rw [this]
        exact Cg.mul_left _ hu
      have e4 := (Cg.refl (ms i) x).add (e2.trans e3)
      refine e4.trans (Cg.of_eq ?_)
      omega
/-- Nothing overflows: the parts of the step. -/
theorem chT_mul {x r p u : Int} (hp : 0 < p) : 0 ≤ (r - x) % p * (u % p) ∧ (r - x) % p * (u % p) ≤ p * p := by
  have h1 : 0 ≤ (r - x) % p := Int.emod_nonneg _ (by omega)
  have h2 : (r - x) % p < p := Int.emod_lt_of_pos _ hp
  have h3 : 0 ≤ u % p := Int.emod_nonneg _ (by omega)
  have h4 : u % p < p := Int.emod_lt_of_pos _ hp
  exact ⟨Int.mul_nonneg h1 h3, Int.mul_le_mul (by omega) (by omega) h3 (by omega)⟩
/-- The inverse that the step takes: of the residue of the product. -/
theorem chi_inv {P p x y g : Int} (h : P % p * x + p * y = g) (hg : g = 1) : Cg p (P * x) 1 := by
  refine (((Cg.emod p P).symm.mul (Cg.refl p x))).trans ⟨-y, ?_⟩
  rw [Int.mul_neg]
  omega
theorem gcd_emod (P p : Int) : (P % p).gcd p = P.gcd p := by rw [Int.emod_def]; exact Int.gcd_sub_mul_left_left ..

/-! ### Symmetric residues -/
def symM (x m : Int) : Int := if m < 2 * (x % m) then x % m - m else x % m
theorem symM_says {x m : Int} (hm : 0 < m) : Cg m (symM x m) x ∧ 2 * symM x m ≤ m ∧ -m < 2 * symM x m := by
  have h1 : 0 ≤ x % m := Int.emod_nonneg _ (by omega)
  have h2 : x % m < m := Int.emod_lt_of_pos _ hm
  have h3 := Cg.emod m x
  unfold symM
  split
  · refine ⟨?_, by omega, by omega⟩
    have := h3.sub (Cg.zero.mpr (Int.dvd_refl m))
    rw [Int.sub_zero] at this
    exact this
  · exact ⟨h3, by omega, by omega⟩
theorem symM_uniq {x m y : Int} (h : Cg m y x) (h1 : 2 * y ≤ m) (h2 : -m < 2 * y) : symM x m = y := by
  have hm : 0 < m := by omega
  obtain ⟨e1, e2, e3⟩ := symM_says (x := x) hm
  have e := h.trans e1.symm
  generalize symM x m = z at e e1 e2 e3 ⊢
  obtain ⟨k, hk⟩ := e
  have h3 : k < 1 := Int.lt_of_mul_lt_mul_left (a := m) (by rw [Int.mul_one]; omega) (by omega)
  have h4 : -1 < k := Int.lt_of_mul_lt_mul_left (a := m) (by rw [Int.mul_neg, Int.mul_one]; omega) (by omega)
  obtain rfl : k = 0 := by omega
  rw [Int.mul_zero] at hk
  omega

/-! ### Images -/
/-- Different primes are moduli. -/
theorem prm_cop {ms : Nat → Int} {p : Int} (hp : Prm p) : ∀ k, (∀ i, i < k → Prm (ms i) ∧ ms i ≠ p) → ¬ p ∣ prodI ms k
  | 0, _, hd => hp.one hd
  | k + 1, h, hd => by
    rcases hp.mul hd with h1 | h1
    · exact prm_cop hp k (fun i hi => h i (by omega)) h1
    · have h2 := h k (by omega)
      have := hp.1
      rcases h2.1.div (by omega) h1 with h3 | h3
      · omega
      · exact h2.2 h3.symm
theorem Modu.primes {ms : Nat → Int} {k : Nat} (hp : ∀ i, i < k → Prm (ms i)) (hd : ∀ i j, i < j → j < k → ms i ≠ ms j) : Modu ms k := fun i hi => by
  refine ⟨(hp i hi).1, ?_⟩
  have := (hp i hi).gcd (prm_cop (hp i hi) i fun j hj => ⟨hp j (by omega), hd j i hj hi⟩)
  omega
/-- The number with the residues of a small one, brought to the middle, is that one. -/
theorem chi_img {ms : Nat → Int} {k : Nat} {x d b : Int} (hm : Modu ms k) (hx : ChiP (fun i => d % ms i) ms k x) (hb : (d.natAbs : Int) ≤ b) (hP : 2 * b < prodI ms k) : symM x (prodI ms k) = d := by
  refine symM_uniq ?_ (by omega) (by omega)
  exact (hm.join fun i hi => (hx.2 i hi).trans (Cg.emod _ _)).symm
end Go.Proofs.Ytcapddcmnjeloaa
end

section
/-
  Plain mathematics of chapter 11: sums of products with ratios; what it is that ratios solve equations; that there is only one solution. Nothing of a program is used.
-/
namespace Go.Proofs.Ytcapddcmnjeloaa

/-! ### Sums of products with ratios -/
/-- The sum of the first products, as AddRatios and MultiplyRatios make it. -/
def sumR (u : Nat → Int) (z : Nat → Int × Int) : Nat → Int × Int
  | 0 => (0, 1)
  | j + 1 => addR (sumR u z j).1 (sumR u z j).2 (mulR (u j) 1 (z j).1 (z j).2).1 (mulR (u j) 1 (z j).1 (z j).2).2
theorem sumR_zero (u : Nat → Int) (z : Nat → Int × Int) : sumR u z 0 = (0, 1) := rfl
theorem sumR_succ (u : Nat → Int) (z : Nat → Int × Int) (j : Nat) : sumR u z (j + 1) = addR (sumR u z j).1 (sumR u z j).2 (mulR (u j) 1 (z j).1 (z j).2).1 (mulR (u j) 1 (z j).1 (z j).2).2 := rfl
/-- What a sum that is a ratio says. -/
theorem sumR_says {u : Nat → Int} {z : Nat → Int × Int} : ∀ {k : Nat}, RatQ (sumR u z k) → (∀ j, j < k → RatQ (z j)) ∧ ∀ (D : Int) (y : Nat → Int), (∀ j, j < k → y j * (z j).2 = (z j).1 * D) → (sumR u z k).1 * D = (sumR u z k).2 * sumN k fun j => u j * y j
  | 0, _ => ⟨fun j hj => absurd hj (by omega), fun D y _ => by show 0 * D = 1 * 0; omega⟩
  | k + 1, h => by
    rw [sumR_succ] at h
    obtain ⟨h1, h2, h3⟩ := addR_back h
    obtain ⟨-, g2, g3⟩ := mulR_back (h2 : RatQ (mulR (u k) 1 (z k).1 (z k).2))
    obtain ⟨i1, i2⟩ := sumR_says (k := k) h1
    refine ⟨fun j hj => ?_, fun D y hy => ?_⟩
    · rcases Nat.lt_or_ge j k with hk | hk
      · exact i1 j hk
      · obtain rfl : j = k := by omega
        exact g2
    · have e1 := i2 D y fun j hj => hy j (by omega)
      have e2 := hy k (by omega)
      rw [← sumR_succ] at h3
      show (sumR u z (k + 1)).1 * D = (sumR u z (k + 1)).2 * (sumN k (fun j => u j * y j) + u k * y k)
      generalize (sumR u z (k + 1)).1 = p' at h3 ⊢
      generalize (sumR u z (k + 1)).2 = q' at h3 ⊢
      have hq := h1.1
      have ht := h2.1
      have hd := g2.1
      generalize (sumR u z k).1 = p at *
      generalize (sumR u z k).2 = q at *
      generalize (mulR (u k) 1 (z k).1 (z k).2).1 = s at *
      generalize (mulR (u k) 1 (z k).1 (z k).2).2 = t at *
      generalize (z k).1 = n at *
      generalize (z k).2 = d at *
      generalize sumN k (fun j => u j * y j) = S at *
      generalize y k = v at *
      generalize u k = w at *
      have e3 : w * v * t = s * D := by
        refine Int.eq_of_mul_eq_mul_right (show d ≠ 0 by omega) ?_
        calc w * v * t * d = w * t * (v * d) := by grind
          _ = w * t * (n * D) := by rw [e2]
          _ = w * n * t * D := by grind
          _ = s * (1 * d) * D := by rw [g3]
          _ = s * D * d := by grind
      refine Int.eq_of_mul_eq_mul_right (show q * t ≠ 0 from Int.mul_ne_zero (by omega) (by omega)) ?_
      calc p' * D * (q * t) = p' * (q * t) * D := by grind
        _ = (p * t + s * q) * q' * D := by rw [← h3]
        _ = q' * (t * (p * D) + q * (s * D)) := by grind
        _ = q' * (t * (q * S) + q * (w * v * t)) := by rw [e1, e3]
        _ = q' * (S + w * v) * (q * t) := by grind

/-! ### Solutions -/
/-- Ratios solve equations: over any common denominator. -/
structure RSol (r c : Nat) (M : Mx) (b : Nat → Int) (z : Nat → Int × Int) : Prop where
  rat : ∀ j, j < c → RatQ (z j)
  sol : ∀ (D : Int) (y : Nat → Int), (∀ j, j < c → y j * (z j).2 = (z j).1 * D) → ∀ i, i < r → (sumN c fun j => M i j * y j) = D * b i
/-- A common denominator. -/
theorem common (z : Nat → Int × Int) (E : Int) (n : Nat) : ∃ y : Nat → Int, ∀ j, j < n → y j * (z j).2 = (z j).1 * (prodI (fun j => (z j).2) n * E) := by
  have h : ∀ j, ∃ v : Int, j < n → v * (z j).2 = (z j).1 * (prodI (fun j => (z j).2) n * E) := fun j => by
    by_cases hj : j < n
    · obtain ⟨q, hq⟩ := prodI_dvd (f := fun j => (z j).2) hj
      refine ⟨(z j).1 * q * E, fun _ => ?_⟩
      rw [hq]
      show (z j).1 * q * E * (z j).2 = (z j).1 * ((z j).2 * q * E)
      grind
    · exact ⟨0, fun h => absurd h hj⟩
  exact ⟨fun j => Classical.choose (h j), fun j hj => Classical.choose_spec (h j) hj⟩
theorem dens_pos {n : Nat} {z : Nat → Int × Int} (h : ∀ j, j < n → RatQ (z j)) : 0 < prodI (fun j => (z j).2) n := prodI_pos fun j hj => by have := (h j hj).1; omega
/-- There is only one. -/
theorem RSol.uniq {n : Nat} {M : Mx} {b : Nat → Int} {z w : Nat → Int × Int} (hd : det n M ≠ 0) (h : RSol n n M b z) (h' : RSol n n M b w) : ∀ j, j < n → z j = w j := fun j hj => by
  have p1 := dens_pos h.rat
  have p2 := dens_pos h'.rat
  obtain ⟨y, hy⟩ := common z (prodI (fun j => (w j).2) n) n
  obtain ⟨x, hx⟩ := common w (prodI (fun j => (z j).2) n) n
  have eP : prodI (fun j => (w j).2) n * prodI (fun j => (z j).2) n = prodI (fun j => (z j).2) n * prodI (fun j => (w j).2) n := Int.mul_comm _ _
  rw [eP] at hx
  have hP : prodI (fun j => (z j).2) n * prodI (fun j => (w j).2) n ≠ 0 := Int.mul_ne_zero (by omega) (by omega)
  generalize prodI (fun j => (z j).2) n * prodI (fun j => (w j).2) n = D at *
  have e := sol_uniq hd (h.sol D y hy) (h'.sol D x hx) j hj
  have e1 : y j = x j := Int.eq_of_mul_eq_mul_left hP e
  have e2 := hy j hj
  have e3 := hx j hj
  rw [e1] at e2
  have e4 : (z j).1 * (w j).2 = (w j).1 * (z j).2 := by
    refine Int.eq_of_mul_eq_mul_right hP ?_
    calc (z j).1 * (w j).2 * D = (z j).1 * D * (w j).2 := by grind
      _ = x j * (z j).2 * (w j).2 := by rw [e2]
      _ = x j * (w j).2 * (z j).2 := by grind
      _ = (w j).1 * D * (z j).2 := by rw [e3]
      _ = (w j).1 * (z j).2 * D := by grind
  obtain ⟨a1, a2⟩ := rat_same (h.rat j hj) (h'.rat j hj) e4
  exact Prod.ext a1 a2
/-- Quotients of determinants. -/
theorem RSol.cramer {n : Nat} {M : Mx} {b : Nat → Int} {z : Nat → Int × Int} (hd : det n M ≠ 0) (hz : ∀ j, j < n → RatQ (z j) ∧ det n (rcX M j b) * (z j).2 = (z j).1 * det n M) : RSol n n M b z where
  rat := fun j hj => (hz j hj).1
  sol := fun D y hy i hi => by
    have e : ∀ j, j < n → y j * det n M = D * det n (rcX M j b) := fun j hj => by
      have e1 := hy j hj
      obtain ⟨h1, h2⟩ := hz j hj
      refine Int.eq_of_mul_eq_mul_right (show (z j).2 ≠ 0 by have := h1.1; omega) ?_
      calc y j * det n M * (z j).2 = y j * (z j).2 * det n M := by grind
        _ = (z j).1 * D * det n M := by rw [e1]
        _ = D * ((z j).1 * det n M) := by grind
        _ = D * (det n (rcX M j b) * (z j).2) := by rw [h2]
        _ = D * det n (rcX M j b) * (z j).2 := by grind
    refine Int.eq_of_mul_eq_mul_right hd ?_
    rw [sumN_mul]
    have e2 : (sumN n fun j => M i j * y j * det n M) = sumN n fun j => D * (M i j * det n (rcX M j b)) := sumN_congr fun j hj => by
      show M i j * y j * det n M = D * (M i j * det n (rcX M j b))
      rw [Int.mul_assoc, e j hj]; grind
    rw [e2, ← sumN_mul_left, Go.Proofs.Ytcapddcmnjeloaa.cramer M b hi]
    grind
theorem sumR_or (u : Nat → Int) (z : Nat → Int × Int) (k : Nat) : sumR u z k = (0, 0) ∨ RatQ (sumR u z k) := by
  cases k with
  | zero => exact .inr (by show IsRatP 0 1; decide)
  | succ k => exact addR_or _ _ _ _
/-- Ratios for which the sums are b. -/
theorem RSol.sums {r c : Nat} {M : Mx} {b : Nat → Int} {z : Nat → Int × Int} (hr : 0 < r ∨ c = 0) (h : ∀ i, i < r → sumR (M i) z c = (b i, 1)) : RSol r c M b z := by
  have hq : ∀ i, i < r → RatQ (sumR (M i) z c) := fun i hi => by
    rcases sumR_or (M i) z c with h0 | h0
    · rw [h i hi] at h0
      have := congrArg Prod.snd h0
      have : (1 : Int) = 0 := this
      omega
    · exact h0
  refine ⟨fun j hj => ?_, fun D y hy i hi => ?_⟩
  · rcases hr with hr | hr
    · exact (sumR_says (hq 0 hr)).1 j hj
    · omega
  · have := (sumR_says (hq i hi)).2 D y hy
    rw [h i hi] at this
    have : b i * D = 1 * sumN c fun j => M i j * y j := this
    rw [Int.one_mul] at this
    rw [← this, Int.mul_comm]
end Go.Proofs.Ytcapddcmnjeloaa
end

section
/-
  Plain mathematics of chapter 6: a matrix without a row and a column is a minor. Nothing of a program is used.
-/
namespace Go.Proofs.Ytcapddcmnjeloaa

/-- The cells before p that lie neither in the row nor in the column. -/
def woL (C : Nat) (row col : Int) (xs : List Int) (p : Nat) : List Int := ((List.range p).filter fun q => decide (((q / C : Nat) : Int) ≠ row ∧ ((q % C : Nat) : Int) ≠ col)).map fun q => xs.getD q 0
theorem woL_zero (C : Nat) (row col : Int) (xs : List Int) : woL C row col xs 0 = [] := rfl
theorem woL_in {C : Nat} {row col : Int} {xs : List Int} {p : Nat} (h : ((p / C : Nat) : Int) ≠ row ∧ ((p % C : Nat) : Int) ≠ col) : woL C row col xs (p + 1) = woL C row col xs p ++ [xs.getD p 0] := by
  unfold woL
  rw [List.range_succ, List.filter_append, List.map_append, List.filter_cons_of_pos (p := (fun q : Nat => decide (((q / C : Nat) : Int) ≠ row ∧ ((q % C : Nat) : Int) ≠ col))) (a := p) (l := []) (decide_eq_true h)]
  rfl
theorem woL_out {C : Nat} {row col : Int} {xs : List Int} {p : Nat} (h : ¬ (((p / C : Nat) : Int) ≠ row ∧ ((p % C : Nat) : Int) ≠ col)) : woL C row col xs (p + 1) = woL C row col xs p := by
  unfold woL
  rw [List.range_succ, List.filter_append, List.map_append, List.filter_cons_of_neg (p := (fun q : Nat => decide (((q / C : Nat) : Int) ≠ row ∧ ((q % C : Nat) : Int) ≠ col))) (a := p) (l := []) (by show ¬ decide _ = true; rw [decide_eq_false h]; decide)]
  exact List.append_nil _
theorem woL_length (C : Nat) (row col : Int) (xs : List Int) (p : Nat) : (woL C row col xs p).length ≤ p := by
  unfold woL
  rw [List.length_map]
  exact Nat.le_trans (List.length_filter_le _ _) (by simp)
theorem tab_row (r c : Nat) (f : Nat → Nat → Int) : tab (r + 1) c f = tab r c f ++ (List.range c).map (f r) := by
  unfold tab
  rw [Nat.add_mul, Nat.one_mul, List.range_add, List.map_append, List.map_map]
  congr 1
  refine List.map_congr_left fun j hj => ?_
  have hj := List.mem_range.mp hj
  show f ((r * c + j) / c) ((r * c + j) % c) = f r j
  rw [idx_div hj, idx_mod hj]
/-- How many of the numbers before k are not i. -/
def less (i k : Nat) : Nat := if i < k then k - 1 else k
theorem less_out {i : Nat} : less i (i + 1) = less i i := by unfold less; rw [if_pos (by omega), if_neg (by omega)]; omega
theorem less_in {i k : Nat} (h : k ≠ i) : less i (k + 1) = less i k + 1 ∧ skp i (less i k) = k := by
  unfold less skp
  by_cases h1 : i < k
  · rw [if_pos (show i < k + 1 by omega), if_pos h1, if_neg (show ¬ k - 1 < i by omega)]; omega
  · rw [if_neg (show ¬ i < k + 1 by omega), if_neg h1, if_pos (show k < i by omega)]; omega
theorem woL_row_out (C row col : Nat) (xs : List Int) (c : Nat) (hc : c ≤ C) : woL C row col xs (row * C + c) = woL C row col xs (row * C) := by
  induction c with
  | zero => rfl
  | succ c ih =>
    rw [← Nat.add_assoc, woL_out (by rw [idx_div (by omega)]; omega), ih (by omega)]
theorem woL_row_in (C row col : Nat) (xs : List Int) (r : Nat) (hr : r ≠ row) (c : Nat) (hc : c ≤ C) :
    woL C row col xs (r * C + c) = woL C row col xs (r * C) ++ (List.range (less col c)).map fun j => xs.getD (r * C + skp col j) 0 := by
  induction c with
  | zero => simp [less]
  | succ c ih =>
    rw [← Nat.add_assoc]
    by_cases h : c = col
    · subst h
      rw [woL_out (by rw [idx_mod (by omega)]; omega), ih (by omega), less_out]
    · obtain ⟨h1, h2⟩ := less_in h
      rw [woL_in (by rw [idx_div (by omega), idx_mod (by omega)]; omega), ih (by omega), h1, List.range_succ, List.map_append, List.append_assoc]
      simp only [List.map_cons, List.map_nil, h2]
theorem woL_rows (C row col : Nat) (xs : List Int) (hc : col < C) (r : Nat) : woL C row col xs (r * C) = tab (less row r) (C - 1) fun i j => xs.getD (skp row i * C + skp col j) 0 := by
  have hC : less col C = C - 1 := by unfold less; rw [if_pos hc]
  induction r with
  | zero => rw [Nat.zero_mul]; simp [less, woL_zero, tab]
  | succ r ih =>
    rw [Nat.add_mul, Nat.one_mul]
    by_cases h : r = row
    · subst h
      rw [woL_row_out _ _ _ _ _ (Nat.le_refl _), ih, less_out]
    · obtain ⟨h1, h2⟩ := less_in h
      rw [woL_row_in _ _ _ _ _ h _ (Nat.le_refl _), ih, h1, tab_row, hC, h2]
/-- A square matrix without a row and a column. -/
theorem woL_tab (n row col : Nat) (xs : List Int) (hr : row < n + 1) (hc : col < n + 1) : woL (n + 1) row col xs ((n + 1) * (n + 1)) = tab n n fun i j => xs.getD (skp row i * (n + 1) + skp col j) 0 := by
  rw [woL_rows _ _ _ _ hc]
  unfold less
  rw [if_pos hr]
  rfl
end Go.Proofs.Ytcapddcmnjeloaa
end

section
/-
  What a call has built by append, whatever it is of.
-/
namespace Go.Proofs.Ytcapddcmnjeloaa
open Go.RowKit

theorem ownB_ge2 {w : World} {base n k : Nat} {e : TypeId} {size : Nat} {v : Value} {xs : List Value} (h : w.ownsRow base e size v n xs) (hk : v.ownBlock = some k) : base ≤ k := (h.lt k hk).1
theorem rows_far {w : World} {base n : Nat} {e : TypeId} {size : Nat} {v : Value} {xs : List Value} (h : w.ownsRow base e size v n xs) {a : Addr} (ha : a.block < base) (u : Value) : (w.setCell a u).ownsRow base e size v n xs := by
  obtain ⟨h1, ⟨h2, h3⟩ | ⟨g, cap, cur, e, hB, hg, rest⟩⟩ := h
  · exact ⟨h1, .inl ⟨h2, h3⟩⟩
  · exact ⟨h1, .inr ⟨g, cap, cur, e, hB, (Below.heap_setCell w a u g (by omega)).trans hg, rest⟩⟩
theorem rows_keep {w w' : World} {base n : Nat} {e : TypeId} {size : Nat} {v : Value} {xs : List Value} (h : w.ownsRow base e size v n xs) (hb : Below w.heap.size w w') : w'.ownsRow base e size v n xs := by
  obtain ⟨h1, ⟨h2, h3⟩ | ⟨g, cap, cur, e, hB, hg, rest⟩⟩ := h
  · exact ⟨h1, .inl ⟨h2, h3⟩⟩
  · exact ⟨h1, .inr ⟨g, cap, cur, e, hB, (hb.block g (lt_of_block hg)).trans hg, rest⟩⟩
theorem rows_form {w : World} {base n : Nat} {e : TypeId} {size : Nat} {v : Value} {xs : List Value} (h : w.ownsRow base e size v n xs) : ∃ a m c, v = .slice a m c := by
  obtain ⟨h1, ⟨h2, h3⟩ | ⟨g, cap, cur, e, hB, hg, rest⟩⟩ := h
  · exact ⟨_, _, _, h2⟩
  · exact ⟨_, _, _, e⟩
end Go.Proofs.Ytcapddcmnjeloaa
end

section
/-
  Chapter 6, in the model: a matrix without a row and a column.
-/
namespace Go.Proofs.Ytcapddcmnjeloaa
set_option maxRecDepth 100000
open Go.RowKit

theorem cell_of_block {w w' : World} {b : Nat} (h : w'.heap[b]? = w.heap[b]?) (o : Nat) : w'.cell? ⟨b, o, none⟩ = w.cell? ⟨b, o, none⟩ := by simp [World.cell?, h]
/-- In the walk: the boxes of the argument, the result and the matrix that grows. -/
def WoSt (w wr : World) (R C : Int) (v : Value) (zs : List Int) : Prop := ∃ va vm vc, Blk3 wr w.heap.size 26 (.int .i64 R) (.int .i64 C) v ∧ Blk3 wr (w.heap.size + 1) 26 (.int .i64 0) (.int .i64 0) (.slice none 0 0) ∧ Blk3 wr (w.heap.size + 1 + 1) 26 (.int .i64 (R - 1)) (.int .i64 (C - 1)) (.slice va vm vc) ∧ wr.ownsRow (w.heap.size + 1 + 1 + 1) 3 1 (.slice va vm vc) zs.length (zs.map (Value.int .i64)) ∧ Below w.heap.size w wr
set_option maxRecDepth 100000 in
set_option maxHeartbeats 2000000 in
theorem sWo (R C ga oa m : Nat) (row col : Int) (xs : List Int) (w : World) (h : Rd w (some ⟨ga, oa, none⟩) xs) (hx : xs.length = R * C) (hR : R ≤ 24) (hC : C ≤ 24) :
    Calls Try.prog 123 #[.agg #[.int .i64 R, .int .i64 C, .slice (some ⟨ga, oa, none⟩) xs.length m], .int .i64 row, .int .i64 col] w (fun e w' => ∃ v, e = .returned (.agg #[.int .i64 ((R : Int) - 1), .int .i64 ((C : Int) - 1), v]) ∧ Own w.heap.size w' v (woL C row col xs (R * C)) ∧ Below w.heap.size w w') := by
  have hle : R * C ≤ 24 * 24 := Nat.mul_le_mul hR hC
  have H := Lib.hid h
  obtain ⟨n, hn⟩ : ∃ n, xs.length = n := ⟨_, rfl⟩
  have HX := Lib.hid hn
  have HN := Lib.hid hx
  rw [hn] at hx ⊢
  clear hn h
  have HN2 := Lib.hid hx
  clear hx
  go_enter Try.func123, Try.ntmps123
  go_wp2_with fail
  obtain ⟨W, hW⟩ : ∃ W, ((w.alloc (.cells #[.int .i64 R, .int .i64 C, .slice (some ⟨ga, oa, none⟩) n m] 26)).alloc (.cells #[.int .i64 0, .int .i64 0, .slice none 0 0] 26)).alloc (.cells #[.int .i64 ((R : Int) - 1), .int .i64 ((C : Int) - 1), .slice none 0 0] 26) = W := ⟨_, rfl⟩
  have S0 : WoSt w W R C (.slice (some ⟨ga, oa, none⟩) n m) (woL C row col xs 0) := by
    rw [← hW]
    refine ⟨none, 0, 0, ((Blk3.at_ _ _ _ _ rfl).old _).old _, (Blk3.at_ _ _ _ _ (by simp)).old _, Blk3.at_ _ _ _ _ (by simp), ⟨rfl, .inl ⟨rfl, rfl⟩⟩, (((Below.refl _ _).alloc (Nat.le_refl _) _).alloc (by simp) _).alloc (by simp <;> omega) _⟩
  have ST0 := Lib.hid S0
  clear S0
  rw [hW]
  clear hW
  obtain ⟨fi, hfi, hz0, hz1, hz2⟩ := facts_int
  go_loopw [8, 9] (fun i _ wr => ∃ I : Nat, i = .int .i64 I ∧ I ≤ R ∧ WoSt w wr R C (.slice (some ⟨ga, oa, none⟩) n m) (woL C row col xs (I * C))) (fun i _ _ => R - (intOf i).toNat)
  case atStart => exact ⟨0, rfl, by omega, by rw [Nat.zero_mul]; exact ST0.out⟩
  case round =>
    obtain ⟨I, rfl, hI, hst⟩ := hrel
    have ST := Lib.hid hst
    obtain ⟨va, vm, vc, k0, k1, k2, -, -⟩ := hst
    obtain ⟨a0, a1, a2, -, -, -⟩ := k0.all
    obtain ⟨b0, b1, b2, bf0, bf1, bf2⟩ := k1.all
    obtain ⟨c0, c1, c2, -, -, -⟩ := k2.all
    by_cases hlt : I < R
    · clear k0 k1 k2
      go_wp2_with fail
      go_loopw [9] (fun j wr => ∃ J : Nat, j = .int .i64 J ∧ J ≤ C ∧ WoSt w wr R C (.slice (some ⟨ga, oa, none⟩) n m) (woL C row col xs (I * C + J))) (fun j _ => C - (intOf j).toNat)
      case atStart => exact ⟨0, rfl, by omega, ST.out⟩
      case round =>
        obtain ⟨J, rfl, hJ, hst⟩ := hrel
        obtain ⟨va, vm, vc, k0, k1, k2, ho, hb⟩ := hst
        have K0 := Lib.hid k0
        have K1 := Lib.hid k1
        have K2 := Lib.hid k2
        have HO := Lib.hid ho
        have B := Lib.hid hb
        obtain ⟨d0, d1, d2, -, -, -⟩ := k0.all
        obtain ⟨e0, e1, e2, ef0, ef1, ef2⟩ := k2.all
        clear k0 k1 k2 ho hb
        by_cases hjt : J < C
        · have hp : I * C + J < n := by rw [HN2.out]; exact idx_lt hlt hjt
          have dv : (I * C + J) / C = I := idx_div hjt
          have md : (I * C + J) % C = J := idx_mod hjt
          have SAME : Hid (WoSt w wr R C (.slice (some ⟨ga, oa, none⟩) n m) (woL C row col xs (I * C + J))) := ⟨va, vm, vc, K0.out, K1.out, K2.out, HO.out, B.out⟩
          by_cases hrow : (I : Int) = row
          · have WS : Hid (woL C row col xs (I * C + (J + 1)) = woL C row col xs (I * C + J)) := woL_out (p := I * C + J) (by rw [dv, md]; exact fun h => h.1 hrow)
            have n1 : ((I : Int) == row) = true := by simpa using hrow
            have n2 : ((I : Int) != row) = false := by simpa using hrow
            clear dv md
            go_wp2_with fail
            go_roundw
            case rel => exact ⟨J + 1, by go_num, by omega, by rw [WS.out]; exact SAME.out⟩
            case measure => simp [intOf]; omega
          · have n1 : ((I : Int) == row) = false := by simpa using hrow
            have n2 : ((I : Int) != row) = true := by simpa using hrow
            by_cases hcol : (J : Int) = col
            · have WS : Hid (woL C row col xs (I * C + (J + 1)) = woL C row col xs (I * C + J)) := woL_out (p := I * C + J) (by rw [dv, md]; exact fun h => h.2 hcol)
              have n3 : ((J : Int) == col) = true := by simpa using hcol
              have n4 : ((J : Int) != col) = false := by simpa using hcol
              clear dv md
              go_wp2_with fail
              go_roundw
              case rel => exact ⟨J + 1, by go_num, by omega, by rw [WS.out]; exact SAME.out⟩
              case measure => simp [intOf]; omega
            · have n3 : ((J : Int) == col) = false := by simpa using hcol
              have n4 : ((J : Int) != col) = true := by simpa using hcol
              have WS : Hid (woL C row col xs (I * C + (J + 1)) = woL C row col xs (I * C + J) ++ [xs.getD (I * C + J) 0]) := woL_in (p := I * C + J) (by rw [dv, md]; exact ⟨hrow, hcol⟩)
              have LB : Hid ((woL C row col xs (I * C + J)).length ≤ 576) := Nat.le_trans (woL_length _ _ _ _ _) (by have := HN2.out; omega)
              have hnL : Hid (I * C + J < xs.length) := by show _ < xs.length; rw [HX.out]; exact hp
              have c1 : (I : Int) * (C : Int) = ((I * C : Nat) : Int) := (Int.natCast_mul _ _).symm
              have d11 : 0 ≤ (I : Int) * (C : Int) := by rw [c1]; omega
              have d12 : (I : Int) * (C : Int) ≤ 600 := by rw [c1]; have := HN2.out; omega
              have g1 : 0 ≤ (I : Int) * (C : Int) + (J : Int) := by omega
              have g2 : (I : Int) * (C : Int) + (J : Int) < (n : Int) := by rw [c1]; omega
              have g3 : ((I : Int) * (C : Int) + (J : Int)).toNat = I * C + J := by rw [c1]; omega
              have v1 : IntKind.i64.wrap ((I : Int) * (C : Int)) = (I : Int) * (C : Int) := IntWalk.i64_in _ (by omega)
              have v2 : IntKind.i64.wrap ((I : Int) * (C : Int) + (J : Int)) = (I : Int) * (C : Int) + (J : Int) := IntWalk.i64_in _ (by omega)
              have GL : Hid (ga < w.heap.size) := by
                obtain ⟨b', o', eo, hc0⟩ := H.out (I * C + J) hnL.out
                simp only [Option.some.injEq, Addr.mk.injEq] at eo
                obtain ⟨rfl, rfl, -⟩ := eo
                show ga < w.heap.size
                rcases Nat.lt_or_ge ga w.heap.size with h | h
                · exact h
                · simp [World.cell?, Array.getElem?_eq_none h] at hc0
              obtain ⟨b', o', eo, hc⟩ := (H.out.below B.out) (I * C + J) hnL.out
              simp only [Option.some.injEq, Addr.mk.injEq] at eo
              obtain ⟨rfl, rfl, -⟩ := eo
              obtain ⟨z, hz⟩ : ∃ z, xs.getD (I * C + J) 0 = z := ⟨_, rfl⟩
              rw [hz] at hc WS
              obtain ⟨zs, hzs⟩ : ∃ zs, woL C row col xs (I * C + J) = zs := ⟨_, rfl⟩
              rw [hzs] at WS HO LB SAME
              clear dv md c1 hz hzs SAME
              have HO2 : Hid (((wr.alloc (.cells #[.int .i64 z] 3)).drew).ownsRow (w.heap.size + 1 + 1 + 1) 3 1 (.slice va vm vc) zs.length (zs.map (Value.int .i64))) := rows_keep HO.out ((Below.refl _ _).alloc (Nat.le_refl _) _).drew
              have B2 : Hid (Below w.heap.size w ((wr.alloc (.cells #[.int .i64 z] 3)).drew)) := (B.out.alloc B.out.size _).drew
              have bl : ga < w.heap.size := GL.out
              have CF : Hid (∀ wS, FrS (fun k => w.heap.size + 1 + 1 ≤ k) wr wS → wS.cell? ⟨w.heap.size, 0, none⟩ = some (.int .i64 R) ∧ wS.cell? ⟨w.heap.size, 1, none⟩ = some (.int .i64 C) ∧ wS.cell? ⟨w.heap.size, 2, none⟩ = some (.slice (some ⟨ga, oa, none⟩) n m) ∧ wS.cell? ⟨ga, oa + (I * C + J), none⟩ = some (.int .i64 z)) := fun wS hS => ⟨(K0.out.frs hS (by show ¬ (w.heap.size + 1 + 1 ≤ w.heap.size); omega)).cell0, (K0.out.frs hS (by show ¬ (w.heap.size + 1 + 1 ≤ w.heap.size); omega)).cell1, (K0.out.frs hS (by show ¬ (w.heap.size + 1 + 1 ≤ w.heap.size); omega)).cell2, by rw [← hc]; exact cell_of_block (hS.block ga (by have := B.out.size; omega) (by simp; omega)) _⟩
              go_upto_region 9 with fail
              refine wp_region_held_drew (S := fun w' => FrS (fun k => w.heap.size + 1 + 1 ≤ k) wr w') (by kernel_rfl) (FrS.refl _ _).drew (fun hH => ?_)
              refine wpAnyH_take (i := 0) (v := ?_) (by simp only [List.getElem?_toArray, List.getElem?_cons_zero]; rfl) (by kernel_rfl) (by kernel_rfl) (by kernel_rfl) (by exact fun _ _ _ h => h) (Or.inl ⟨by rfl, ?_⟩) hH ?_
              rotate_left
              · (intro wS hS; clear hS; go_simp; try rfl)
              try simp only [Act.put, List.setIfInBounds_toArray, List.set_cons_zero, List.set_cons_succ]
              refine wpAnyH_take (i := 2) (v := ?_) (by simp only [List.getElem?_toArray, List.getElem?_cons_succ, List.getElem?_cons_zero]; rfl) (by kernel_rfl) (by kernel_rfl) (by kernel_rfl) (by exact fun _ _ _ h => h) (Or.inl ⟨by rfl, ?_⟩) hH ?_
              rotate_left
              · (intro wS hS; clear hS; go_simp; try rfl)
              try simp only [Act.put, List.setIfInBounds_toArray, List.set_cons_zero, List.set_cons_succ]
              refine wpAnyH_take (i := 3) (v := ?_) (by simp only [List.getElem?_toArray, List.getElem?_cons_succ, List.getElem?_cons_zero]; rfl) (by kernel_rfl) (by kernel_rfl) (by kernel_rfl) (by exact fun _ _ _ h => h) (Or.inl ⟨by rfl, ?_⟩) hH ?_
              rotate_left
              · (intro wS hS; (try dsimp only at hS); obtain ⟨k1, k2, k3, k4⟩ := CF.out wS hS; go_simp; try rfl)
              try simp only [Act.put, List.setIfInBounds_toArray, List.set_cons_zero, List.set_cons_succ]
              refine wpAnyH_take (i := 4) (v := ?_) (by simp only [List.getElem?_toArray, List.getElem?_cons_succ, List.getElem?_cons_zero]; rfl) (by kernel_rfl) (by kernel_rfl) (by kernel_rfl) (by exact fun _ _ _ h => h) (Or.inl ⟨by rfl, ?_⟩) hH ?_
              rotate_left
              · (intro wS hS; clear hS; go_simp; try rfl)
              try simp only [Act.put, List.setIfInBounds_toArray, List.set_cons_zero, List.set_cons_succ]
              refine wpAnyH_take (i := 5) (v := ?_) (by simp only [List.getElem?_toArray, List.getElem?_cons_succ, List.getElem?_cons_zero]; rfl) (by kernel_rfl) (by kernel_rfl) (by kernel_rfl) (by exact fun _ _ _ h => h) (Or.inl ⟨by rfl, ?_⟩) hH ?_
              rotate_left
              · (intro wS hS; clear hS; go_simp; try rfl)
              try simp only [Act.put, List.setIfInBounds_toArray, List.set_cons_zero, List.set_cons_succ]
              refine wpAnyH_take (i := 6) (v := ?_) (by simp only [List.getElem?_toArray, List.getElem?_cons_succ, List.getElem?_cons_zero]; rfl) (by kernel_rfl) (by kernel_rfl) (by kernel_rfl) (by exact fun _ _ _ h => h) (Or.inl ⟨by rfl, ?_⟩) hH ?_
              rotate_left
              · (intro wS hS; (try dsimp only at hS); obtain ⟨k1, k2, k3, k4⟩ := CF.out wS hS; go_simp; try rfl)
              try simp only [Act.put, List.setIfInBounds_toArray, List.set_cons_zero, List.set_cons_succ]
              refine wpAnyH_take (i := 7) (v := ?_) (by simp only [List.getElem?_toArray, List.getElem?_cons_succ, List.getElem?_cons_zero]; rfl) (by kernel_rfl) (by kernel_rfl) (by kernel_rfl) (by exact fun _ _ _ h => h) (Or.inl ⟨by rfl, ?_⟩) hH ?_
              rotate_left
              · (intro wS hS; clear hS; go_simp; try rfl)
              try simp only [Act.put, List.setIfInBounds_toArray, List.set_cons_zero, List.set_cons_succ]
              refine wpAnyH_take (i := 8) (v := ?_) (by simp only [List.getElem?_toArray, List.getElem?_cons_succ, List.getElem?_cons_zero]; rfl) (by kernel_rfl) (by kernel_rfl) (by kernel_rfl) (by exact fun _ _ _ h => h) (Or.inl ⟨by rfl, ?_⟩) hH ?_
              rotate_left
              · (intro wS hS; clear hS; go_simp; try rfl)
              try simp only [Act.put, List.setIfInBounds_toArray, List.set_cons_zero, List.set_cons_succ]
              refine wpAnyH_take (i := 9) (v := ?_) (by simp only [List.getElem?_toArray, List.getElem?_cons_succ, List.getElem?_cons_zero]; rfl) (by kernel_rfl) (by kernel_rfl) (by kernel_rfl) (by exact fun _ _ _ h => h) (Or.inl ⟨by rfl, ?_⟩) hH ?_
              rotate_left
              · (intro wS hS; clear hS; go_simp; try rfl)
              try simp only [Act.put, List.setIfInBounds_toArray, List.set_cons_zero, List.set_cons_succ]
              refine wpAnyH_take (i := 10) (v := ?_) (by simp only [List.getElem?_toArray, List.getElem?_cons_succ, List.getElem?_cons_zero]; rfl) (by kernel_rfl) (by kernel_rfl) (by kernel_rfl) (by exact fun _ _ _ h => h) (Or.inl ⟨by rfl, ?_⟩) hH ?_
              rotate_left
              · (intro wS hS; clear hS; go_simp; try rfl)
              try simp only [Act.put, List.setIfInBounds_toArray, List.set_cons_zero, List.set_cons_succ]
              refine wpAnyH_take (i := 11) (v := ?_) (by simp only [List.getElem?_toArray, List.getElem?_cons_succ, List.getElem?_cons_zero]; rfl) (by kernel_rfl) (by kernel_rfl) (by kernel_rfl) (by exact fun _ _ _ h => h) (Or.inl ⟨by rfl, ?_⟩) hH ?_
              rotate_left
              · (intro wS hS; (try dsimp only at hS); obtain ⟨k1, k2, k3, k4⟩ := CF.out wS hS; go_simp; try rfl)
              try simp only [Act.put, List.setIfInBounds_toArray, List.set_cons_zero, List.set_cons_succ]
              refine wpAnyH_ready (rs := [1, 12]) (by kernel_rfl) (by simp) ?_
              refine AllReadyH.cons (by simp only [List.getElem?_toArray, List.getElem?_cons_succ, List.getElem?_cons_zero]; rfl) (fun KK hKK => ?_) (AllReadyH.cons (by simp only [List.getElem?_toArray, List.getElem?_cons_succ, List.getElem?_cons_zero]; rfl) (fun KK hKK => ?_) AllReadyH.nil)
              · go_simp
                try dsimp only
                refine hKK.out _ _ ?_ (fun hH2 => ?_)
                · exact (FrS.refl _ wr).drew
                clear hKK KK
                have hO := hH
                clear hH
                have hH := hH2
                clear hH2
                try simp only [Act.put, List.setIfInBounds_toArray, List.set_cons_zero, List.set_cons_succ]
                refine wpAnyH_ready (rs := [12]) (by kernel_rfl) (by simp) ?_
                refine AllReadyH.cons (by simp only [List.getElem?_toArray, List.getElem?_cons_succ, List.getElem?_cons_zero]; rfl) (fun KK hKK => ?_) AllReadyH.nil
                go_simp
                try dsimp only
                refine hKK.out _ _ ?_ (fun hH2 => ?_)
                · exact ((FrS.refl _ wr).alloc _).drew
                clear hKK KK
                have hO := hH
                clear hH
                have hH := hH2
                clear hH2
                try simp only [Act.put, List.setIfInBounds_toArray, List.set_cons_zero, List.set_cons_succ]
                obtain ⟨v1, wa, hr1, ho1, hg1, -, -⟩ := run_append_own_at (P := Try.prog) (w := (wr.alloc (.cells #[.int .i64 z] 3)).drew) (w.heap.size + 1 + 1 + 1) 24 24 3 fi (.int .i64 0) 1 8 underlying_ints hfi hz0 hz1 hz2 rfl (by decide) _ _ _ HO2.out ⟨wr.heap.size, 0, none⟩ 1 1 [.int .i64 z] rfl (cell_one_new wr (.int .i64 z) 3) (by intro u hu; obtain rfl := List.mem_singleton.mp hu; rfl) (by have := LB.out; unfold maxLen; omega) (by have := LB.out; omega) (by have := K2.out.lt; simp; omega)
                obtain ⟨ua, um, uc, rfl⟩ := rows_form ho1
                refine wpAnyH_ready (rs := [13]) (by kernel_rfl) (by simp) ?_
                refine AllReadyH.cons (by simp only [List.getElem?_toArray, List.getElem?_cons_succ, List.getElem?_cons_zero]; rfl) (fun KK hKK => ?_) AllReadyH.nil
                refine step_append rfl _ _ 24 rfl _ _ rfl rfl _ _ hr1 ?_
                have kk : ∀ b, b < w.heap.size + 1 + 1 + 1 → b < wr.heap.size → wa.heap[b]? = wr.heap[b]? := fun b hb hb2 => (hg1.block b (by simp; omega) (fun e => by have := ownB_ge2 HO2.out e.symm; omega)).trans (Below.heap_alloc wr _ b hb2)
                have FA : Hid (FrS (fun k => w.heap.size + 1 + 1 ≤ k) wr wa) := ⟨hg1.os, hg1.tape, hg1.output, Nat.le_trans (by simp) hg1.size, fun k hk hn => kk k (by omega) hk⟩
                have L0 := K0.out.lt
                have L1 := K1.out.lt
                have L2 := K2.out.lt
                have K0 : Hid (Blk3 wa w.heap.size 26 (.int .i64 R) (.int .i64 C) (.slice (some ⟨ga, oa, none⟩) n m)) := (kk _ (by omega) L0).trans K0.out
                have K1 : Hid (Blk3 wa (w.heap.size + 1) 26 (.int .i64 0) (.int .i64 0) (.slice none 0 0)) := (kk _ (by omega) L1).trans K1.out
                have K2 : Hid (Blk3 wa (w.heap.size + 1 + 1) 26 (.int .i64 ((R : Int) - 1)) (.int .i64 ((C : Int) - 1)) (.slice va vm vc)) := (kk _ (by omega) L2).trans K2.out
                have O3 : Hid (wa.ownsRow (w.heap.size + 1 + 1 + 1) 3 1 (.slice ua um uc) (zs ++ [z]).length ((zs ++ [z]).map (Value.int .i64))) := by
                  refine Lib.hid ?_
                  rw [List.length_append, List.map_append]
                  exact ho1
                have B3 : Hid (Below w.heap.size w wa) := Lib.hid (B2.out.grown hg1 B2.out.size (fun k hk => by have := ownB_ge2 HO2.out hk; omega))
                clear ho1 hg1 kk
                try dsimp only
                refine hKK.out _ _ ?_ (fun hH2 => ?_)
                · exact FA.out
                clear hKK KK
                have hO := hH
                clear hH
                have hH := hH2
                clear hH2
                try simp only [Act.put, List.setIfInBounds_toArray, List.set_cons_zero, List.set_cons_succ]
                refine wpAnyH_take (i := 14) (v := ?_) (by simp only [List.getElem?_toArray, List.getElem?_cons_succ, List.getElem?_cons_zero]; rfl) (by kernel_rfl) (by kernel_rfl) (by kernel_rfl) (by exact fun _ _ _ h => h) (Or.inl ⟨by rfl, ?_⟩) hH ?_
                rotate_left
                · (intro wS hS; clear hS; go_simp; try rfl)
                try simp only [Act.put, List.setIfInBounds_toArray, List.set_cons_zero, List.set_cons_succ]
                clear d0 d1 d2 e0 e1 e2 ef0 ef1 ef2
                obtain ⟨e0, e1, e2, ef0, ef1, ef2⟩ := K2.out.all
                refine wpAnyH_ready (rs := [15]) (by kernel_rfl) (by simp) ?_
                refine AllReadyH.cons (by simp only [List.getElem?_toArray, List.getElem?_cons_succ, List.getElem?_cons_zero]; rfl) (fun KK hKK => ?_) AllReadyH.nil
                go_simp
                try dsimp only
                refine hKK.out _ _ ?_ (fun hH2 => ?_)
                · exact FA.out.set (a := ⟨w.heap.size + 1 + 1, 2, none⟩) (.inl (Nat.le_refl _)) _
                clear hKK KK
                have hO := hH
                clear hH
                have hH := hH2
                clear hH2
                try simp only [Act.put, List.setIfInBounds_toArray, List.set_cons_zero, List.set_cons_succ]
                refine wpAnyH_done (by kernel_rfl) ?_ _
                go_wp2_with fail
                go_roundw
                case rel =>
                  refine ⟨J + 1, by go_num, by omega, ?_⟩
                  rw [WS.out]
                  exact ⟨ua, um, uc, K0.out.far (by show w.heap.size ≠ w.heap.size + 1 + 1; omega) _, K1.out.far (by show w.heap.size + 1 ≠ w.heap.size + 1 + 1; omega) _, K2.out.set2 _, rows_far O3.out (by simp) _, B3.out.setCell (by show w.heap.size ≤ w.heap.size + 1 + 1; omega) _⟩
                case measure => simp [intOf]; omega
              · go_simp
                try dsimp only
                refine hKK.out _ _ ?_ (fun hH2 => ?_)
                · exact ((FrS.refl _ wr).alloc _).drew
                clear hKK KK
                have hO := hH
                clear hH
                have hH := hH2
                clear hH2
                try simp only [Act.put, List.setIfInBounds_toArray, List.set_cons_zero, List.set_cons_succ]
                have LK2 := K2.out.lt
                obtain ⟨q0, q1, q2, -, -, -⟩ := ((K2.out.old (.cells #[.int .i64 z] 3)).drew).all
                refine wpAnyH_ready (rs := [1]) (by kernel_rfl) (by simp) ?_
                refine AllReadyH.cons (by simp only [List.getElem?_toArray, List.getElem?_cons_succ, List.getElem?_cons_zero]; rfl) (fun KK hKK => ?_) AllReadyH.nil
                go_simp
                try dsimp only
                refine hKK.out _ _ ?_ (fun hH2 => ?_)
                · exact ((FrS.refl _ wr).alloc _).drew
                clear hKK KK
                have hO := hH
                clear hH
                have hH := hH2
                clear hH2
                try simp only [Act.put, List.setIfInBounds_toArray, List.set_cons_zero, List.set_cons_succ]
                obtain ⟨v1, wa, hr1, ho1, hg1, -, -⟩ := run_append_own_at (P := Try.prog) (w := (wr.alloc (.cells #[.int .i64 z] 3)).drew) (w.heap.size + 1 + 1 + 1) 24 24 3 fi (.int .i64 0) 1 8 underlying_ints hfi hz0 hz1 hz2 rfl (by decide) _ _ _ HO2.out ⟨wr.heap.size, 0, none⟩ 1 1 [.int .i64 z] rfl (cell_one_new wr (.int .i64 z) 3) (by intro u hu; obtain rfl := List.mem_singleton.mp hu; rfl) (by have := LB.out; unfold maxLen; omega) (by have := LB.out; omega) (by have := K2.out.lt; simp; omega)
                obtain ⟨ua, um, uc, rfl⟩ := rows_form ho1
                refine wpAnyH_ready (rs := [13]) (by kernel_rfl) (by simp) ?_
                refine AllReadyH.cons (by simp only [List.getElem?_toArray, List.getElem?_cons_succ, List.getElem?_cons_zero]; rfl) (fun KK hKK => ?_) AllReadyH.nil
                refine step_append rfl _ _ 24 rfl _ _ rfl rfl _ _ hr1 ?_
                have kk : ∀ b, b < w.heap.size + 1 + 1 + 1 → b < wr.heap.size → wa.heap[b]? = wr.heap[b]? := fun b hb hb2 => (hg1.block b (by simp; omega) (fun e => by have := ownB_ge2 HO2.out e.symm; omega)).trans (Below.heap_alloc wr _ b hb2)
                have FA : Hid (FrS (fun k => w.heap.size + 1 + 1 ≤ k) wr wa) := ⟨hg1.os, hg1.tape, hg1.output, Nat.le_trans (by simp) hg1.size, fun k hk hn => kk k (by omega) hk⟩
                have L0 := K0.out.lt
                have L1 := K1.out.lt
                have L2 := K2.out.lt
                have K0 : Hid (Blk3 wa w.heap.size 26 (.int .i64 R) (.int .i64 C) (.slice (some ⟨ga, oa, none⟩) n m)) := (kk _ (by omega) L0).trans K0.out
                have K1 : Hid (Blk3 wa (w.heap.size + 1) 26 (.int .i64 0) (.int .i64 0) (.slice none 0 0)) := (kk _ (by omega) L1).trans K1.out
                have K2 : Hid (Blk3 wa (w.heap.size + 1 + 1) 26 (.int .i64 ((R : Int) - 1)) (.int .i64 ((C : Int) - 1)) (.slice va vm vc)) := (kk _ (by omega) L2).trans K2.out
                have O3 : Hid (wa.ownsRow (w.heap.size + 1 + 1 + 1) 3 1 (.slice ua um uc) (zs ++ [z]).length ((zs ++ [z]).map (Value.int .i64))) := by
                  refine Lib.hid ?_
                  rw [List.length_append, List.map_append]
                  exact ho1
                have B3 : Hid (Below w.heap.size w wa) := Lib.hid (B2.out.grown hg1 B2.out.size (fun k hk => by have := ownB_ge2 HO2.out hk; omega))
                clear ho1 hg1 kk
                try dsimp only
                refine hKK.out _ _ ?_ (fun hH2 => ?_)
                · exact FA.out
                clear hKK KK
                have hO := hH
                clear hH
                have hH := hH2
                clear hH2
                try simp only [Act.put, List.setIfInBounds_toArray, List.set_cons_zero, List.set_cons_succ]
                refine wpAnyH_take (i := 14) (v := ?_) (by simp only [List.getElem?_toArray, List.getElem?_cons_succ, List.getElem?_cons_zero]; rfl) (by kernel_rfl) (by kernel_rfl) (by kernel_rfl) (by exact fun _ _ _ h => h) (Or.inl ⟨by rfl, ?_⟩) hH ?_
                rotate_left
                · (intro wS hS; clear hS; go_simp; try rfl)
                try simp only [Act.put, List.setIfInBounds_toArray, List.set_cons_zero, List.set_cons_succ]
                clear d0 d1 d2 e0 e1 e2 ef0 ef1 ef2
                obtain ⟨e0, e1, e2, ef0, ef1, ef2⟩ := K2.out.all
                refine wpAnyH_ready (rs := [15]) (by kernel_rfl) (by simp) ?_
                refine AllReadyH.cons (by simp only [List.getElem?_toArray, List.getElem?_cons_succ, List.getElem?_cons_zero]; rfl) (fun KK hKK => ?_) AllReadyH.nil
                go_simp
                try dsimp only
                refine hKK.out _ _ ?_ (fun hH2 => ?_)
                · exact FA.out.set (a := ⟨w.heap.size + 1 + 1, 2, none⟩) (.inl (Nat.le_refl _)) _
                clear hKK KK
                have hO := hH
                clear hH
                have hH := hH2
                clear hH2
                try simp only [Act.put, List.setIfInBounds_toArray, List.set_cons_zero, List.set_cons_succ]
                refine wpAnyH_done (by kernel_rfl) ?_ _
                go_wp2_with fail
                go_roundw
                case rel =>
                  refine ⟨J + 1, by go_num, by omega, ?_⟩
                  rw [WS.out]
                  exact ⟨ua, um, uc, K0.out.far (by show w.heap.size ≠ w.heap.size + 1 + 1; omega) _, K1.out.far (by show w.heap.size + 1 ≠ w.heap.size + 1 + 1; omega) _, K2.out.set2 _, rows_far O3.out (by simp) _, B3.out.setCell (by show w.heap.size ≤ w.heap.size + 1 + 1; omega) _⟩
                case measure => simp [intOf]; omega
        · have ej : J = C := by omega
          subst ej
          have e1' : (I + 1) * J = I * J + J := Nat.succ_mul I J
          go_wp2_with fail
          go_roundw
          case rel => exact ⟨I + 1, by go_num, by omega, by rw [e1']; exact ⟨va, vm, vc, K0.out, K1.out, K2.out, HO.out, B.out⟩⟩
          case measure => simp [intOf]; omega
    · have ei : I = R := by omega
      subst ei
      obtain ⟨va, vm, vc, k0, k1, k2, ho, hb⟩ := ST.out
      have hl : (woL C row col xs (I * C)).length ≤ 16777216 := Nat.le_trans (woL_length _ _ _ _ _) (by omega)
      have OW := Lib.hid (Own.of_row ho hl)
      have K1 := Lib.hid k1
      have K2 := Lib.hid k2
      have B := Lib.hid hb
      clear a0 a1 a2 b0 b1 b2 bf0 bf1 bf2 c0 c1 c2
      obtain ⟨a0, a1, a2, -, -, -⟩ := k0.all
      obtain ⟨b0, b1, b2, bf0, bf1, bf2⟩ := k1.all
      obtain ⟨c0, c1, c2, -, -, -⟩ := k2.all
      clear k0 k1 k2 ho hb hl
      go_wp2_with fail
      obtain ⟨E0, E1, E2, -, -, -⟩ := (K1.out.set3 (.int .i64 ((I : Int) - 1)) (.int .i64 ((C : Int) - 1)) (.slice va vm vc)).all
      refine bodyPost_ret (v := .agg #[.int .i64 ((I : Int) - 1), .int .i64 ((C : Int) - 1), .slice va vm vc]) (by simp [results, Try.results123, go_sem, E0, E1, E2]) rfl ⟨_, rfl, ?_, ((B.out.setCell (by show w.heap.size ≤ w.heap.size + 1; omega) _).setCell (by show w.heap.size ≤ w.heap.size + 1; omega) _).setCell (by show w.heap.size ≤ w.heap.size + 1; omega) _⟩
      exact (((OW.out.far (by show w.heap.size + 1 < w.heap.size + 1 + 1 + 1; omega) _).far (by show w.heap.size + 1 < w.heap.size + 1 + 1 + 1; omega) _).far (by show w.heap.size + 1 < w.heap.size + 1 + 1 + 1; omega) _).le (by omega)
end Go.Proofs.Ytcapddcmnjeloaa
end

section
/-
  Elimination without fractions: the cells that are made are bordered minors, so each division is exact. Plain mathematics: nothing of a program is used.
-/
namespace Go.Proofs.Ytcapddcmnjeloaa

/-- The first t rows and row i; the first t columns and column j. -/
def bdX (t i j : Nat) (A : Mx) : Mx := fun r c => A (if r < t then r else i) (if c < t then c else j)
/-- The bordered minor. -/
def bm (t i j : Nat) (A : Mx) : Int := det (t + 1) (bdX t i j A)
theorem bm_zero (i j : Nat) (A : Mx) : bm 0 i j A = A i j := by
  show 0 + sg 0 * bdX 0 i j A 0 0 * 1 = A i j
  rw [sg_zero]
  show 0 + 1 * A i j * 1 = A i j
  omega
theorem bm_diag (t : Nat) (A : Mx) : bm t t t A = det (t + 1) A := det_congr fun r c hr hc => by
  show A (if r < t then r else t) (if c < t then c else t) = A r c
  have e : ∀ k, k < t + 1 → (if k < t then k else t) = k := fun k hk => by
    by_cases h : k < t
    · rw [if_pos h]
    · rw [if_neg h]; omega
  rw [e r hr, e c hc]
theorem bm_tr (t i j : Nat) (A : Mx) : bm t i j (trX A) = bm t j i A := by
  unfold bm
  rw [← det_tr (t + 1) (bdX t j i A)]
  rfl
theorem bm_row {t i j : Nat} (A : Mx) (h : i < t) : bm t i j A = 0 :=
  alt_at (det_alt (t + 1)) (r := i) (s := t) (by omega) (by omega) (by omega) _ fun c _ => by
    show A (if i < t then i else i) _ = A (if t < t then t else i) _
    rw [if_pos h, if_neg (Nat.lt_irrefl t)]
theorem bm_col {t i j : Nat} (A : Mx) (h : j < t) : bm t i j A = 0 := by
  rw [← bm_tr, bm_row _ h]
/-- The factors of the rows in a bordered minor. -/
def kap (t i : Nat) (A : Mx) (s : Nat) : Int := sg (s + t) * det t (mnr (bdX t i 0 A) s t)
theorem skp_of_lt {j k : Nat} (h : k < j) : skp j k = k := if_pos h
theorem bm_comb (t i j : Nat) (A : Mx) : bm t i j A = det t A * A i j + sumN t fun s => kap t i A s * A s j := by
  unfold bm
  rw [det_col_at t _ t (by omega)]
  have e : ∀ s, s < t + 1 → det t (mnr (bdX t i j A) s t) = det t (mnr (bdX t i 0 A) s t) := fun s _ => det_congr fun r c _ hc => by
    show A _ (if skp t c < t then skp t c else j) = A _ (if skp t c < t then skp t c else 0)
    rw [skp_of_lt hc, if_pos hc, if_pos hc]
  show (sumN t fun s => sg (s + t) * bdX t i j A s t * det t (mnr (bdX t i j A) s t)) + sg (t + t) * bdX t i j A t t * det t (mnr (bdX t i j A) t t) = _
  have l : sg (t + t) * bdX t i j A t t * det t (mnr (bdX t i j A) t t) = det t A * A i j := by
    have e1 : bdX t i j A t t = A i j := by
      show A (if t < t then t else i) (if t < t then t else j) = _
      rw [if_neg (Nat.lt_irrefl t), if_neg (Nat.lt_irrefl t)]
    have e2 : det t (mnr (bdX t i j A) t t) = det t A := det_congr fun r c hr hc => by
      show A (if skp t r < t then skp t r else i) (if skp t c < t then skp t c else j) = A r c
      rw [skp_of_lt hr, skp_of_lt hc, if_pos hr, if_pos hc]
    rw [e1, e2, sg_add, sg_sq, Int.one_mul, Int.mul_comm]
  rw [l, Int.add_comm]
  congr 1
  refine sumN_congr fun s hs => ?_
  rw [e s (by omega)]
  have e1 : bdX t i j A s t = A s j := by
    show A (if s < t then s else i) (if t < t then t else j) = _
    rw [if_pos hs, if_neg (Nat.lt_irrefl t)]
  rw [e1]
  unfold kap
  grind
/-- Multiples of earlier rows are added to a multiple of row r. -/
theorem det_comb {n r m : Nat} (N : Mx) (x : Int) (k : Nat → Int) (hm : m ≤ r) (hr : r < n) : det n (stR N r fun c => x * N r c + sumN m fun s => k s * N s c) = x * det n N := by
  have h := det_lin n N r (N r) (fun c => sumN m fun s => k s * N s c) x 1 hr
  simp only [Int.one_mul] at h
  rw [h, stR_self, lin_sum (det_lin n) hr, sumN_all_zero]
  · omega
  · intro s hs
    rw [alt_at (det_alt n) (r := s) (s := r) (by omega) (by omega) hr _ (fun c _ => by rw [stR_at, stR_ne _ _ _ _ _ (by omega)]), Int.mul_zero]
theorem det_last {t : Nat} (M : Mx) (h : ∀ c, c < t → M t c = 0) : det (t + 1) M = M t t * det t M := by
  rw [det_row_at t M t (by omega), sumN_one (a := t) (by omega)]
  · have e : det t (mnr M t t) = det t M := det_congr fun r c hr hc => by
      show M (skp t r) (skp t c) = M r c
      rw [skp_of_lt hr, skp_of_lt hc]
    rw [e, sg_add, sg_sq, Int.one_mul]
  · intro c hc hne
    rw [h c (by omega), Int.mul_zero, Int.zero_mul]
/-- Each division of the elimination is exact. -/
theorem sylvester (t i j : Nat) (A : Mx) (h : det t A ≠ 0) : det t A * bm (t + 1) i j A = bm t t t A * bm t i j A - bm t i t A * bm t t j A := by
  obtain ⟨L, hL⟩ : ∃ L, det t A = L := ⟨_, rfl⟩
  have col : ∀ c, c < t + 2 → ∀ r, r < t → bdX (t + 1) i j A r c = A r (if c < t + 1 then c else j) := fun c _ r hr => by
    show A (if r < t + 1 then r else i) _ = _
    rw [if_pos (by omega)]
  obtain ⟨N, hN⟩ : ∃ N, bdX (t + 1) i j A = N := ⟨_, rfl⟩
  have rt : ∀ c, N t c = A t (if c < t + 1 then c else j) := fun c => by
    rw [← hN]
    show A (if t < t + 1 then t else i) _ = _
    rw [if_pos (by omega)]
  have rt1 : ∀ c, N (t + 1) c = A i (if c < t + 1 then c else j) := fun c => by
    rw [← hN]
    show A (if t + 1 < t + 1 then t + 1 else i) _ = _
    rw [if_neg (by omega)]
  rw [hN] at col
  obtain ⟨N1, hN1⟩ : ∃ M, (stR N t fun c => L * N t c + sumN t fun s => kap t t A s * N s c) = M := ⟨_, rfl⟩
  obtain ⟨N2, hN2⟩ : ∃ M, (stR N1 (t + 1) fun c => L * N1 (t + 1) c + sumN t fun s => kap t i A s * N1 s c) = M := ⟨_, rfl⟩
  have d1 : det (t + 2) N1 = L * det (t + 2) N := by rw [← hN1]; exact det_comb N L _ (Nat.le_refl t) (by omega)
  have d2 : det (t + 2) N2 = L * det (t + 2) N1 := by rw [← hN2]; exact det_comb N1 L _ (by omega) (by omega)
  have q : ∀ r, r < t → ∀ c, N1 r c = N r c := fun r hr c => by rw [← hN1]; exact stR_ne _ _ _ _ _ (by omega)
  have e0 : ∀ r, r < t → ∀ c, c < t + 2 → N2 r c = A r (if c < t + 1 then c else j) := fun r hr c hc => by
    rw [← hN2, stR_ne _ _ _ _ _ (by omega), q r hr, col c hc r hr]
  have e1 : ∀ c, c < t + 2 → N2 t c = bm t t (if c < t + 1 then c else j) A := fun c hc => by
    rw [← hN2, stR_ne _ _ _ _ _ (by omega), ← hN1, stR_at, bm_comb, hL, rt]
    congr 1
    exact sumN_congr fun s hs => by rw [col c hc s hs]
  have e2 : ∀ c, c < t + 2 → N2 (t + 1) c = bm t i (if c < t + 1 then c else j) A := fun c hc => by
    have : N1 (t + 1) c = N (t + 1) c := by rw [← hN1]; exact stR_ne _ _ _ _ _ (by omega)
    rw [← hN2, stR_at, bm_comb, hL, this, rt1]
    congr 1
    exact sumN_congr fun s hs => by rw [q s hs, col c hc s hs]
  have z1 : ∀ c, c < t → N2 t c = 0 := fun c hc => by rw [e1 c (by omega), if_pos (by omega), bm_col A hc]
  have z2 : ∀ c, c < t → N2 (t + 1) c = 0 := fun c hc => by rw [e2 c (by omega), if_pos (by omega), bm_col A hc]
  have m1 : det (t + 1) (mnr N2 (t + 1) (t + 1)) = bm t t t A * L := by
    rw [det_last]
    · have a1 : mnr N2 (t + 1) (t + 1) t t = bm t t t A := by
        show N2 (skp (t + 1) t) (skp (t + 1) t) = _
        rw [skp_of_lt (by omega), e1 t (by omega), if_pos (by omega)]
      have a2 : det t (mnr N2 (t + 1) (t + 1)) = L := by
        rw [← hL]
        refine det_congr fun r c hr hc => ?_
        show N2 (skp (t + 1) r) (skp (t + 1) c) = _
        rw [skp_of_lt (by omega), skp_of_lt (by omega), e0 r hr c (by omega), if_pos (by omega)]
      rw [a1, a2]
    · intro c hc
      show N2 (skp (t + 1) t) (skp (t + 1) c) = 0
      rw [skp_of_lt (by omega), skp_of_lt (by omega), z1 c hc]
  have m2 : det (t + 1) (mnr N2 (t + 1) t) = bm t t j A * L := by
    rw [det_last]
    · have a1 : mnr N2 (t + 1) t t t = bm t t j A := by
        show N2 (skp (t + 1) t) (skp t t) = _
        have : skp t t = t + 1 := by unfold skp; rw [if_neg (by omega)]
        rw [skp_of_lt (by omega), this, e1 (t + 1) (by omega), if_neg (by omega)]
      have a2 : det t (mnr N2 (t + 1) t) = L := by
        rw [← hL]
        refine det_congr fun r c hr hc => ?_
        show N2 (skp (t + 1) r) (skp t c) = _
        rw [skp_of_lt (by omega), skp_of_lt hc, e0 r hr c (by omega), if_pos (by omega)]
      rw [a1, a2]
    · intro c hc
      show N2 (skp (t + 1) t) (skp t c) = 0
      rw [skp_of_lt (by omega), skp_of_lt hc, z1 c hc]
  have d3 : det (t + 2) N2 = L * (bm t t t A * bm t i j A - bm t i t A * bm t t j A) := by
    rw [det_row_at (t + 1) N2 (t + 1) (by omega), sumN_two (a := t) (b := t + 1) (by omega) (by omega)]
    · have s1 : sg (t + 1 + t) = -1 := by rw [sg_add, sg_succ, Int.neg_mul, sg_sq]
      have s2 : sg (t + 1 + (t + 1)) = 1 := by rw [sg_add, sg_sq]
      rw [m1, m2, e2 t (by omega), e2 (t + 1) (by omega), if_pos (by omega), if_neg (by omega), s1, s2]
      grind
    · intro c hc h1 h2
      rw [z2 c (by omega), Int.mul_zero, Int.zero_mul]
  have bN : bm (t + 1) i j A = det (t + 2) N := by rw [← hN]; rfl
  rw [hL, bN]
  rw [hL] at h
  have fin : L * (L * det (t + 2) N) = L * (bm t t t A * bm t i j A - bm t i t A * bm t t j A) := by rw [← d1, ← d2, d3]
  exact Int.eq_of_mul_eq_mul_left h fin
/-- Where no row has a pivot the determinant is 0. -/
theorem no_pivot {t n : Nat} (A : Mx) (ht : t < n) (h : det t A ≠ 0) (hz : ∀ i, t ≤ i → i < n → bm t i t A = 0) : det n A = 0 := by
  have h1 : ∀ i, i < n → det t A * A i t + (sumN t fun s => kap t t (trX A) s * A i s) = 0 := fun i hi => by
    have e := bm_comb t t i (trX A)
    rw [bm_tr, det_tr] at e
    have e2 : bm t i t A = 0 := by
      rcases Nat.lt_or_ge i t with hlt | hge
      · exact bm_row A hlt
      · exact hz i hge hi
    rw [e2] at e
    exact e.symm
  have h2 := det_comb (n := n) (r := t) (m := t) (trX A) (det t A) (kap t t (trX A)) (Nat.le_refl t) ht
  have h3 : det n (stR (trX A) t fun c => det t A * trX A t c + sumN t fun s => kap t t (trX A) s * trX A s c) = det n (stR (trX A) t fun _ => 0) := det_congr fun r c _ hc => by
    unfold stR
    by_cases e : r = t
    · rw [if_pos e, if_pos e]; exact h1 c hc
    · rw [if_neg e, if_neg e]
  rw [h3, lin_zero (det_lin n) ht, det_tr] at h2
  rcases Int.mul_eq_zero.mp h2.symm with h4 | h4
  · exact absurd h4 h
  · exact h4
/-- Two rows from t on change places. -/
theorem bm_swap {t p i j : Nat} (A : Mx) (hp : t ≤ p) : bm t i j (swR A t p) = bm t (if i = t then p else if i = p then t else i) j A := det_congr fun r c _ _ => by
  show swR A t p (if r < t then r else i) _ = A (if r < t then r else _) _
  unfold swR
  by_cases hr : r < t
  · rw [if_pos hr, if_pos hr, if_neg (by omega), if_neg (by omega)]
  · rw [if_neg hr, if_neg hr]
    by_cases h1 : i = t
    · rw [if_pos h1, if_pos h1]
    · rw [if_neg h1, if_neg h1]
      by_cases h2 : i = p
      · rw [if_pos h2, if_pos h2]
      · rw [if_neg h2, if_neg h2]
theorem det_swap_low {t p : Nat} (A : Mx) (hp : t ≤ p) : det t (swR A t p) = det t A := det_congr fun r c hr _ => by
  unfold swR
  rw [if_neg (by omega), if_neg (by omega)]
end Go.Proofs.Ytcapddcmnjeloaa
end

section
/-
  Plain mathematics of chapter 6: the determinant by expansion along the first row, with a mark where one that is met is beyond the limit. Nothing of a program is used.
-/
namespace Go.Proofs.Ytcapddcmnjeloaa

/-- The matrix of a list of cells. -/
def mxL (n : Nat) (xs : List Int) : Mx := fun r c => xs.getD (r * n + c) 0
theorem mxL_tab (n : Nat) (f : Nat → Nat → Int) : EqX n (mxL n (tab n n f)) f := fun _ _ hr hc => tab_at n n f hr hc
/-- The sum of the first columns, unless a minor that is met has the mark. -/
def detAcc (g f : Nat → Int) : Nat → Option Int
  | 0 => some 0
  | j + 1 => match detAcc g f j with
    | none => none
    | some s => if g j = 0 then some s else if f j = badN then none else some (s + sg j * g j * f j)
theorem detAcc_skip {g f : Nat → Int} {j : Nat} {s : Int} (h : detAcc g f j = some s) (h0 : g j = 0) : detAcc g f (j + 1) = some s := by
  show (match detAcc g f j with | none => _ | some s => _) = _
  rw [h]
  exact if_pos h0
theorem detAcc_bad {g f : Nat → Int} {j : Nat} {s : Int} (h : detAcc g f j = some s) (h0 : g j ≠ 0) (h1 : f j = badN) : detAcc g f (j + 1) = none := by
  show (match detAcc g f j with | none => _ | some s => _) = _
  rw [h]
  show (if g j = 0 then _ else _) = _
  rw [if_neg h0, if_pos h1]
theorem detAcc_add {g f : Nat → Int} {j : Nat} {s : Int} (h : detAcc g f j = some s) (h0 : g j ≠ 0) (h1 : f j ≠ badN) : detAcc g f (j + 1) = some (s + sg j * g j * f j) := by
  show (match detAcc g f j with | none => _ | some s => _) = _
  rw [h]
  show (if g j = 0 then _ else _) = _
  rw [if_neg h0, if_neg h1]
theorem detAcc_none_succ {g f : Nat → Int} {j : Nat} (h : detAcc g f j = none) : detAcc g f (j + 1) = none := by
  show (match detAcc g f j with | none => _ | some s => _) = _
  rw [h]
theorem detAcc_none {g f : Nat → Int} {j k : Nat} (h : detAcc g f j = none) (hk : j ≤ k) : detAcc g f k = none := by
  induction k with
  | zero => obtain rfl : j = 0 := by omega
            exact h
  | succ k ih =>
    rcases Nat.lt_or_ge k j with h1 | h1
    · obtain rfl : j = k + 1 := by omega
      exact h
    · exact detAcc_none_succ (ih h1)
theorem detAcc_sum {g f : Nat → Int} {k : Nat} : ∀ {s : Int}, detAcc g f k = some s → s = sumN k fun j => sg j * g j * f j := by
  induction k with
  | zero => intro s h; exact (Option.some.inj h).symm
  | succ k ih =>
    intro s h
    cases h1 : detAcc g f k with
    | none => rw [detAcc_none_succ h1] at h; cases h
    | some s1 =>
      show s = sumN k _ + sg k * g k * f k
      by_cases h0 : g k = 0
      · rw [detAcc_skip h1 h0] at h
        rw [← Option.some.inj h, ih h1, h0, Int.mul_zero, Int.zero_mul, Int.add_zero]
      · by_cases h2 : f k = badN
        · rw [detAcc_bad h1 h0 h2] at h; cases h
        · rw [detAcc_add h1 h0 h2] at h
          rw [← Option.some.inj h, ih h1]
theorem detAcc_met {g f : Nat → Int} {k : Nat} : ∀ {s : Int}, detAcc g f k = some s → ∀ j, j < k → g j ≠ 0 → f j ≠ badN := by
  induction k with
  | zero => intro s _ j hj; omega
  | succ k ih =>
    intro s h j hj h0 h2
    cases h1 : detAcc g f k with
    | none => rw [detAcc_none_succ h1] at h; cases h
    | some s1 =>
      rcases Nat.lt_or_ge j k with h3 | h3
      · exact ih h1 j h3 h0 h2
      · obtain rfl : j = k := by omega
        rw [detAcc_bad h1 h0 h2] at h; cases h
theorem sg_or (k : Nat) : sg k = 1 ∨ sg k = -1 := by unfold sg; split <;> simp
theorem sg_num {k : Nat} {x : Int} (h : NumP x) : NumP (sg k * x) := by
  unfold NumP at *
  rcases sg_or k with e | e <;> rw [e] <;> omega
theorem detAcc_bd {g f : Nat → Int} {k : Nat} (hg : ∀ j, j < k → NumP (g j)) (hf : ∀ j, j < k → f j = badN ∨ NumP (f j)) : ∀ {s : Int}, detAcc g f k = some s → -((k : Int) * 160000000000000000) ≤ s ∧ s ≤ (k : Int) * 160000000000000000 := by
  induction k with
  | zero => intro s h; rw [← Option.some.inj h]; omega
  | succ k ih =>
    intro s h
    cases h1 : detAcc g f k with
    | none => rw [detAcc_none_succ h1] at h; cases h
    | some s1 =>
      have b := ih (fun j hj => hg j (by omega)) (fun j hj => hf j (by omega)) h1
      by_cases h0 : g k = 0
      · rw [detAcc_skip h1 h0] at h
        rw [← Option.some.inj h]; omega
      · by_cases h2 : f k = badN
        · rw [detAcc_bad h1 h0 h2] at h; cases h
        · rw [detAcc_add h1 h0 h2] at h
          have m := mul_num _ _ (sg_num (k := k) (hg k (by omega))) ((hf k (by omega)).resolve_left h2)
          rw [← Option.some.inj h]; omega
/-- The determinant of n rows, or the mark. -/
def detB : Nat → List Int → Int
  | 0, _ => 1
  | n + 1, xs => match detAcc (fun j => xs.getD j 0) (fun j => detB n (woL (n + 1) (0 : Int) (j : Int) xs ((n + 1) * (n + 1)))) (n + 1) with
    | none => badN
    | some s => fitB s
/-- The minors of the first row, with marks. -/
def mnB (n : Nat) (xs : List Int) (j : Nat) : Int := detB n (woL (n + 1) (0 : Int) (j : Int) xs ((n + 1) * (n + 1)))
theorem detB_none {n : Nat} {xs : List Int} (h : detAcc (fun j => xs.getD j 0) (mnB n xs) (n + 1) = none) : detB (n + 1) xs = badN := by
  show (match detAcc (fun j => xs.getD j 0) (mnB n xs) (n + 1) with | none => badN | some s => fitB s) = _
  rw [h]
theorem detB_some {n : Nat} {xs : List Int} {s : Int} (h : detAcc (fun j => xs.getD j 0) (mnB n xs) (n + 1) = some s) : detB (n + 1) xs = fitB s := by
  show (match detAcc (fun j => xs.getD j 0) (mnB n xs) (n + 1) with | none => badN | some s => fitB s) = _
  rw [h]
theorem fitB_or (z : Int) : fitB z = badN ∨ NumP (fitB z) := by
  unfold fitB
  by_cases h : NumP z
  · rw [if_pos h]; exact .inr h
  · rw [if_neg h]; exact .inl rfl
theorem detB_or (n : Nat) (xs : List Int) : detB n xs = badN ∨ NumP (detB n xs) := by
  cases n with
  | zero => exact .inr (by show NumP 1; decide)
  | succ n =>
    cases h : detAcc (fun j => xs.getD j 0) (mnB n xs) (n + 1) with
    | none => exact .inl (detB_none h)
    | some s => rw [detB_some h]; exact fitB_or s
theorem mxL_woL {n : Nat} {xs : List Int} {i j : Nat} (hi : i < n + 1) (hj : j < n + 1) : EqX n (mxL n (woL (n + 1) (i : Int) (j : Int) xs ((n + 1) * (n + 1)))) (mnr (mxL (n + 1) xs) i j) := by
  rw [woL_tab n i j xs hi hj]
  exact mxL_tab n _
theorem woL_sq {n : Nat} {xs : List Int} {i j : Nat} (hi : i < n + 1) (hj : j < n + 1) : (woL (n + 1) (i : Int) (j : Int) xs ((n + 1) * (n + 1))).length = n * n := by rw [woL_tab n i j xs hi hj, tab_length]
/-- Without the mark, it is the determinant. -/
theorem detB_det (n : Nat) : ∀ xs : List Int, detB n xs ≠ badN → detB n xs = det n (mxL n xs) := by
  induction n with
  | zero => intro xs _; rfl
  | succ n ih =>
    intro xs hb
    cases h : detAcc (fun j => xs.getD j 0) (mnB n xs) (n + 1) with
    | none => exact absurd (detB_none h) hb
    | some s =>
      rw [detB_some h] at hb ⊢
      have e : fitB s = s := by
        unfold fitB at hb ⊢
        by_cases hs : NumP s
        · rw [if_pos hs]
        · rw [if_neg hs] at hb; exact absurd rfl hb
      rw [e, detAcc_sum h, det_row]
      refine sumN_congr fun j hj => ?_
      have e0 : mxL (n + 1) xs 0 j = xs.getD j 0 := by unfold mxL; rw [Nat.zero_mul, Nat.zero_add]
      rw [e0]
      by_cases h0 : xs.getD j 0 = 0
      · simp only [h0, Int.mul_zero, Int.zero_mul]
      · have hm := detAcc_met h j hj h0
        have := ih _ hm
        show sg j * xs.getD j 0 * detB n _ = _
        rw [this, det_congr (show EqX n (mxL n (woL (n + 1) (0 : Int) (j : Int) xs ((n + 1) * (n + 1)))) (mnr (mxL (n + 1) xs) 0 j) from mxL_woL (i := 0) (by omega) hj)]
theorem woL_nums {n : Nat} {xs : List Int} {i j : Nat} (hi : i < n + 1) (hj : j < n + 1) (h : nums xs = true) : nums (woL (n + 1) (i : Int) (j : Int) xs ((n + 1) * (n + 1))) = true := by
  rw [woL_tab n i j xs hi hj]
  refine nums_true fun p hp => ?_
  rw [tab_length] at hp
  have hn : 0 < n := by
    rcases Nat.eq_zero_or_pos n with e | e
    · subst e; omega
    · exact e
  have e : p = p / n * n + p % n := by rw [Nat.mul_comm]; exact (Nat.div_add_mod p n).symm
  rw [e, tab_at n n _ (Nat.div_lt_of_lt_mul hp) (Nat.mod_lt p hn)]
  rcases Nat.lt_or_ge (skp i (p / n) * (n + 1) + skp j (p % n)) xs.length with h1 | h1
  · exact nums_at h h1
  · rw [List.getD, List.getElem?_eq_none h1]; exact ⟨by decide, by decide⟩
/-- What DeterminantOf answers, for a square matrix. -/
def detM (n : Nat) (xs : List Int) : Int × Bool := if detB n xs = badN then (0, false) else (detB n xs, true)
end Go.Proofs.Ytcapddcmnjeloaa
end

section
/-
  Chapter 6, in the model: l6Det.
-/
namespace Go.Proofs.Ytcapddcmnjeloaa
set_option maxRecDepth 100000
open Go.RowKit

theorem Own.rdq {B n c : Nat} {w : World} {a : Option Addr} {zs : List Int} (h : Own B w (.slice a n c) zs) : Rd w a zs := by
  rcases h with ⟨hv, rfl⟩ | ⟨g, cap, hv, _, hi, _⟩
  · exact Rd.nil _ _
  · simp only [Value.slice.injEq] at hv
    obtain ⟨rfl, -, -⟩ := hv
    exact hi.rd
set_option maxRecDepth 100000 in
set_option maxHeartbeats 1000000 in
theorem sDet (n : Nat) : ∀ (a : Option Addr) (m : Nat) (xs : List Int) (w : World), Rd w a xs → xs.length = n * n → n ≤ 6 → nums xs = true →
    Calls Try.prog 102 #[.agg #[.int .i64 n, .int .i64 n, .slice a (n * n) m]] w (Gives (.int .i64 (detB n xs)) w) := by
  induction n with
  | zero =>
    intro a m xs w h hx hn nx
    go_enter Try.func102, Try.ntmps102
    go_wp2_with fail
    go_ret
    exact ⟨rfl, (Below.refl _ _).alloc (Nat.le_refl _) _⟩
  | succ n ih =>
    intro a m xs w h hx hn nx
    obtain ⟨ga, oa, rfl⟩ := h.addr (by rw [hx]; exact Nat.mul_pos (by omega) (by omega))
    have H := Lib.hid h
    have NX := Lib.hid nx
    have IH := Lib.hid ih
    have D0 : Hid (∀ j, detAcc (fun j => xs.getD j 0) (mnB n xs) j = none → j ≤ n + 1 → detB (n + 1) xs = badN) := fun j h1 h2 => detB_none (detAcc_none h1 h2)
    have D1 : Hid (∀ s, detAcc (fun j => xs.getD j 0) (mnB n xs) (n + 1) = some s → detB (n + 1) xs = fitB s) := fun s h1 => detB_some h1
    have WL : Hid (∀ j, j < n + 1 → (woL (n + 1) (0 : Int) (j : Int) xs ((n + 1) * (n + 1))).length = n * n ∧ nums (woL (n + 1) (0 : Int) (j : Int) xs ((n + 1) * (n + 1))) = true) := fun j hj => ⟨woL_sq (i := 0) (by omega) hj, woL_nums (i := 0) (by omega) hj nx⟩
    have BD : Hid (∀ j s, j ≤ n + 1 → detAcc (fun j => xs.getD j 0) (mnB n xs) j = some s → -((j : Int) * 160000000000000000) ≤ s ∧ s ≤ (j : Int) * 160000000000000000) := fun j s hj h1 => detAcc_bd (fun i hi => nums_at nx (by rw [hx]; have := Nat.mul_le_mul_left (n + 1) (show 1 ≤ n + 1 by omega); omega)) (fun i _ => detB_or _ _) h1
    have ND : Hid (∀ j, j < n + 1 → NumP (xs.getD j 0)) := fun j hj => nums_at nx (by rw [hx]; have := Nat.mul_le_mul_left (n + 1) (show 1 ≤ n + 1 by omega); omega)
    have CL : Hid (∀ w', Below w.heap.size w w' → ∀ j, j < n + 1 → w'.cell? ⟨ga, oa + j, none⟩ = some (.int .i64 (xs.getD j 0))) := fun w' hb j hj => (H.out.below hb).cells j (by rw [hx]; have := Nat.mul_le_mul_left (n + 1) (show 1 ≤ n + 1 by omega); omega)
    have JL : Hid (n + 1 ≤ (n + 1) * (n + 1)) := Nat.le_mul_of_pos_left _ (by omega)
    have FD : Hid (∀ j, mnB n xs j = detB n (woL (n + 1) (0 : Int) (j : Int) xs ((n + 1) * (n + 1)))) := fun j => rfl
    obtain ⟨N, hN⟩ : ∃ N, (n + 1) * (n + 1) = N := ⟨_, rfl⟩
    have WO : Hid (∀ (j : Nat) (w' : World), Below w.heap.size w w' → Calls Try.prog 123 #[.agg #[.int .i64 ((n + 1 : Nat) : Int), .int .i64 ((n + 1 : Nat) : Int), .slice (some ⟨ga, oa, none⟩) N m], .int .i64 0, .int .i64 j] w' (fun e w2 => ∃ v, e = .returned (.agg #[.int .i64 n, .int .i64 n, v]) ∧ Own w'.heap.size w2 v (woL (n + 1) 0 j xs N) ∧ Below w'.heap.size w' w2)) := fun j w' hb => by
      have := sWo (n + 1) (n + 1) ga oa m 0 j xs w' (H.out.below hb) hx (by omega) (by omega)
      rw [hx, hN, show ((n + 1 : Nat) : Int) - 1 = (n : Int) by omega] at this
      exact this
    rw [hN] at hx JL WL FD ⊢
    generalize mnB n xs = f at D0 D1 BD FD
    obtain ⟨r, hr⟩ : ∃ r, n + 1 = r := ⟨_, rfl⟩
    rw [hr] at hn D0 D1 BD ND CL JL WO FD WL ⊢
    clear h nx ih hN hx
    have B0 : Hid (∀ o, Below w.heap.size w (w.alloc o)) := fun o => (Below.refl _ _).alloc (Nat.le_refl _) _
    have K0 : Hid (Blk3 (w.alloc (.cells #[.int .i64 r, .int .i64 r, .slice (some ⟨ga, oa, none⟩) N m] 26)) w.heap.size 26 (.int .i64 r) (.int .i64 r) (.slice (some ⟨ga, oa, none⟩) N m)) := Blk3.at_ _ _ _ _ rfl
    obtain ⟨W, hW⟩ : ∃ W, w.alloc (.cells #[.int .i64 r, .int .i64 r, .slice (some ⟨ga, oa, none⟩) N m] 26) = W := ⟨_, rfl⟩
    have B1 : Hid (Below w.heap.size w W) := by rw [← hW]; exact B0.out _
    have NZ : ((r : Int) == 0) = false := by simp; omega
    rw [hW] at K0
    obtain ⟨a0, a1, a2, -, -, -⟩ := K0.out.all
    go_enter Try.func102, Try.ntmps102
    go_wp2_with fail
    clear a0 a1 a2 hW B0
    go_loopw [2, 3, 4, 5, 6] (fun _ v3 v4 v5 _ wr => ∃ (j : Nat) (s : Int), v5 = .int .i64 j ∧ j ≤ r ∧ v3 = .int .i64 s ∧ v4 = .int .i64 (sg j) ∧ detAcc (fun j => xs.getD j 0) f j = some s ∧ Below W.heap.size W wr) (fun _ _ _ v5 _ _ => r - (intOf v5).toNat)
    case atStart => exact ⟨0, 0, rfl, by omega, rfl, rfl, rfl, Below.refl _ _⟩
    case round =>
      obtain ⟨j, s, rfl, hj, rfl, rfl, hs, hb⟩ := hrel
      have E := Lib.hid hs
      have B := Lib.hid hb
      have BW : Hid (Below w.heap.size w wr) := B1.out.trans (hb.mono B1.out.size)
      have R0 := Lib.hid (K0.out.keep hb K0.out.lt)
      clear hs hb
      obtain ⟨a0, a1, a2, -, -, -⟩ := R0.out.all
      by_cases hlt : j < r
      · have hc := CL.out wr BW.out j hlt
        have hx := ND.out j hlt
        obtain ⟨x, hxx⟩ : ∃ x, xs.getD j 0 = x := ⟨_, rfl⟩
        have X := Lib.hid hxx
        rw [hxx] at hc hx
        clear hxx
        have jl := JL.out
        obtain ⟨sn, hsn⟩ : ∃ z, sg j = z := ⟨_, rfl⟩
        have S := Lib.hid hsn
        have s1 : sn = 1 ∨ sn = -1 := by rw [← hsn]; exact sg_or j
        have vn : IntKind.i64.wrap (-sn) = -sn := IntWalk.i64_in _ (by omega)
        have SS : Hid (sg (j + 1) = -sn) := by show _ = _; rw [sg_succ, hsn]
        rw [hsn]
        clear hsn
        by_cases h0 : x = 0
        · have n1 : (x != 0) = false := by simp [h0]
          have E2 : Hid (detAcc (fun j => xs.getD j 0) f (j + 1) = some s) := detAcc_skip E.out (by show xs.getD j 0 = 0; rw [X.out, h0])
          clear h0 s1
          go_wp2_with fail
          go_roundw
          case rel => exact ⟨j + 1, s, by go_num, by omega, rfl, by rw [SS.out], E2.out, B.out⟩
          case measure => simp [intOf]; omega
        · have n1 : (x != 0) = true := by simp [h0]
          have h00 : Hid (xs.getD j 0 ≠ 0) := by show _ ≠ _; rw [X.out]; exact h0
          clear h0
          go_wp2_with fail
          refine (WO.out j _ BW.out).mono ?_
          rintro e w1 ⟨v, rfl, own, hb1⟩
          obtain ⟨w1l, w1n⟩ := WL.out j hlt
          obtain ⟨q, qc, rfl, -, -⟩ := own.form
          rw [w1l]
          have RQ := Lib.hid own.rdq
          have B2 := Lib.hid (B.out.trans (hb1.mono B.out.size))
          have BW2 := Lib.hid (BW.out.trans (hb1.mono BW.out.size))
          have LL := Lib.hid w1l
          have LN := Lib.hid w1n
          clear own hb1 w1l w1n
          go_wp2_with fail
          refine (IH.out q qc _ w1 RQ.out LL.out (by omega) LN.out).mono ?_
          rintro e w2 ⟨rfl, hb2⟩
          have B3 := Lib.hid (B2.out.trans (hb2.mono B2.out.size))
          have BW3 := Lib.hid (BW2.out.trans (hb2.mono BW2.out.size))
          have R1 := Lib.hid (K0.out.keep B3.out K0.out.lt)
          have FJ := FD.out j
          obtain ⟨y, hy⟩ : ∃ y, detB n (woL r 0 j xs N) = y := ⟨_, rfl⟩
          rw [hy] at FJ ⊢
          have Y := Lib.hid FJ
          have hyb : y = badN ∨ NumP y := by rw [← hy]; exact detB_or _ _
          clear hy FJ hb2 a0 a1 a2
          by_cases h1 : y = badN
          · have n2 : (y == -4611686018427387904) = true := by simp [h1, badN]
            have V : Hid (detB r xs = -4611686018427387904) := D0.out (j + 1) (detAcc_bad E.out h00.out (by rw [Y.out]; exact h1)) (by omega)
            clear h1 hyb s1
            go_wp2_with fail
            go_ret
            exact ⟨by rw [V.out]; rfl, BW3.out⟩
          · have n2 : (y == -4611686018427387904) = false := by simpa [badN] using h1
            have E2 : Hid (detAcc (fun j => xs.getD j 0) f (j + 1) = some (s + sn * x * y)) := by
              have := detAcc_add E.out h00.out (by rw [Y.out]; exact h1)
              rw [S.out, Y.out] at this
              show _ = _
              rw [this, X.out]
            have bd := BD.out (j + 1) _ (by omega) E2.out
            have mx : NumP (sn * x) := by unfold NumP at *; rcases s1 with rfl | rfl <;> omega
            have my := mul_num _ _ mx (hyb.resolve_left h1)
            unfold NumP at mx
            have v1 : IntKind.i64.wrap (sn * x) = sn * x := IntWalk.i64_in _ (by omega)
            have v2 : IntKind.i64.wrap (sn * x * y) = sn * x * y := IntWalk.i64_in _ (by omega)
            have v3 : IntKind.i64.wrap (s + sn * x * y) = s + sn * x * y := IntWalk.i64_in _ (by omega)
            have hc := CL.out w2 BW3.out j hlt
            rw [X.out] at hc
            obtain ⟨a0, a1, a2, -, -, -⟩ := R1.out.all
            clear h1 hyb s1 bd mx my
            go_wp2_with fail
            go_roundw
            case rel => exact ⟨j + 1, s + sn * x * y, by go_num, by omega, rfl, by rw [SS.out], E2.out, B3.out⟩
            case measure => simp [intOf]; omega
      · obtain rfl : j = r := by omega
        have V : Hid (detB j xs = fitB s) := D1.out s E.out
        clear hlt
        go_wp2_with fail
        refine (sFit s _).mono ?_
        rintro e w2 ⟨rfl, rfl⟩
        go_wp2_with fail
        go_ret
        exact ⟨by rw [V.out]; rfl, BW.out⟩
end Go.Proofs.Ytcapddcmnjeloaa
end

section
/-
  Chapter 6, in the model: IsSquare.
-/
namespace Go.Proofs.Ytcapddcmnjeloaa
open Go.RowKit

def isSq (r c : Int) (xs : List Int) : Bool := isMat r c xs && decide (r = c) && decide (r ≤ 6)
set_option maxHeartbeats 1000000 in
theorem sIsSq (r c : Int) (a : Option Addr) (m : Nat) (xs : List Int) (w : World) (h : Rd w a xs) (hn : xs.length ≤ 16777216) :
    Calls Try.prog 101 #[.agg #[.int .i64 r, .int .i64 c, .slice a xs.length m]] w (Gives (.bool (isSq r c xs)) w) := by
  have H := Lib.hid h
  obtain ⟨n, hx⟩ : ∃ n, xs.length = n := ⟨_, rfl⟩
  have HX := Lib.hid hx
  rw [hx] at hn ⊢
  clear hx h
  have B0 : ∀ o1, Below w.heap.size w (w.alloc o1) := fun o1 => (Below.refl _ _).alloc (Nat.le_refl _) _
  have BH := Lib.hid B0
  clear B0
  have fin : ∀ b (w' : World), isSq r c xs = b → Below w.heap.size w w' → Gives (.bool (isSq r c xs)) w (.returned (.bool b)) w' := fun b w' h1 h2 => ⟨by rw [h1], h2⟩
  have FIN := Lib.hid fin
  clear fin
  go_enter Try.func101, Try.ntmps101
  go_wp2_with fail
  have ST := sIsMat r c a m xs _ (H.out.below (BH.out (.cells #[.int .i64 r, .int .i64 c, .slice a n m] 26))) (by rw [HX.out]; omega)
  rw [HX.out] at ST
  refine ST.mono ?_
  clear ST
  rintro e w1 ⟨rfl, hb⟩
  have K0 : Hid (Blk3 w1 w.heap.size 26 (.int .i64 r) (.int .i64 c) (.slice a n m)) := (Blk3.at_ _ _ _ _ rfl).keep hb (by simp)
  have B : Hid (Below w.heap.size w w1) := (BH.out _).trans (hb.mono (by simp))
  clear hb
  obtain ⟨ca0, ca1, ca2, -, -, -⟩ := K0.out.all
  obtain ⟨bm, hbm⟩ : ∃ b, isMat r c xs = b := ⟨_, rfl⟩
  rw [hbm]
  cases bm with
  | false =>
    have V : Hid (isSq r c xs = false) := by show isSq r c xs = false; unfold isSq; rw [hbm]; rfl
    clear hbm
    go_wp2_with fail
    go_ret
    exact FIN.out _ _ V.out B.out
  | true =>
    by_cases h1 : r = c
    · by_cases h2 : r ≤ 6
      · have V : Hid (isSq r c xs = true) := by show isSq r c xs = true; unfold isSq; rw [hbm, decide_eq_true h1, decide_eq_true h2]; rfl
        clear hbm
        subst h1
        go_wp2_with fail
        go_ret
        exact FIN.out _ _ V.out B.out
      · have V : Hid (isSq r c xs = false) := by show isSq r c xs = false; unfold isSq; rw [hbm, decide_eq_false h2]; simp
        clear hbm
        subst h1
        go_wp2_with fail
        go_ret
        exact FIN.out _ _ (by rw [V.out]; exact (decide_eq_false (by omega)).symm) B.out
    · have V : Hid (isSq r c xs = false) := by show isSq r c xs = false; unfold isSq; rw [hbm, decide_eq_false h1]; simp
      have n1 : (r == c) = false := by simpa using h1
      clear hbm
      go_wp2_with fail
      go_ret
      exact FIN.out _ _ V.out B.out
end Go.Proofs.Ytcapddcmnjeloaa
end

section
/-
  Chapter 6, in the model: DeterminantOf, IsUnimodular.
-/
namespace Go.Proofs.Ytcapddcmnjeloaa
open Go.RowKit

/-- What DeterminantOf answers. -/
def detOf (r c : Int) (xs : List Int) : Int × Bool := if isSq r c xs = true then detM r.toNat xs else (0, false)
theorem isSq_says {r c : Int} {xs : List Int} (h : isSq r c xs = true) : ∃ n : Nat, r = n ∧ c = n ∧ n ≤ 6 ∧ xs.length = n * n ∧ nums xs = true := by
  unfold isSq at h
  simp only [Bool.and_eq_true, decide_eq_true_eq] at h
  obtain ⟨⟨h1, h2⟩, h3⟩ := h
  obtain ⟨⟨r1, r2⟩, -, l, nx⟩ := isMat_says h1
  obtain ⟨n, rfl⟩ := Int.eq_ofNat_of_zero_le r1
  subst h2
  exact ⟨n, rfl, rfl, by omega, by rw [← Int.natCast_mul] at l; omega, nx⟩
set_option maxRecDepth 100000 in
set_option maxHeartbeats 1000000 in
theorem sDetOf (r c : Int) (a : Option Addr) (m : Nat) (xs : List Int) (w : World) (h : Rd w a xs) (hn : xs.length ≤ 16777216) :
    Calls Try.prog 68 #[.agg #[.int .i64 r, .int .i64 c, .slice a xs.length m]] w (Gives (.tuple #[.int .i64 (detOf r c xs).1, .bool (detOf r c xs).2]) w) := by
  have H := Lib.hid h
  obtain ⟨l, hx⟩ : ∃ n, xs.length = n := ⟨_, rfl⟩
  have HX := Lib.hid hx
  rw [hx] at hn ⊢
  clear hx h
  have B0 : Hid (∀ o1, Below w.heap.size w (w.alloc o1)) := fun o1 => (Below.refl _ _).alloc (Nat.le_refl _) _
  have SQ : Hid (∀ w', Below w.heap.size w w' → Calls Try.prog 101 #[.agg #[.int .i64 r, .int .i64 c, .slice a l m]] w' (Gives (.bool (isSq r c xs)) w')) := fun w' hb => by
    have := sIsSq r c a m xs w' (H.out.below hb) (by rw [HX.out]; exact hn)
    rw [HX.out] at this
    exact this
  rcases Bool.eq_false_or_eq_true (isSq r c xs) with hs | hs
  · obtain ⟨n, rfl, rfl, h6, hl, nx⟩ := isSq_says hs
    have V : Hid (detOf n n xs = detM n xs) := by show detOf n n xs = _; unfold detOf; rw [if_pos hs]; rfl
    have DT : Hid (∀ w', Below w.heap.size w w' → Calls Try.prog 102 #[.agg #[.int .i64 n, .int .i64 n, .slice a l m]] w' (Gives (.int .i64 (detB n xs)) w')) := fun w' hb => by
      have := sDet n a m xs w' (H.out.below hb) hl h6 nx
      rw [← hl, HX.out] at this
      exact this
    rw [hs] at SQ
    obtain ⟨y, hy⟩ : ∃ y, detB n xs = y := ⟨_, rfl⟩
    rw [hy] at DT
    rw [V.out]
    have M1 : Hid (y = badN → detM n xs = (0, false)) := fun e => by unfold detM; rw [hy, if_pos e]
    have M2 : Hid (y ≠ badN → detM n xs = (y, true)) := fun e => by unfold detM; rw [hy, if_neg e]
    clear hs hl nx hy V
    go_enter Try.func68, Try.ntmps68
    go_wp2_with fail
    refine (SQ.out _ (B0.out _)).mono ?_
    rintro e w1 ⟨rfl, hb⟩
    have K0 : Hid (Blk3 w1 w.heap.size 26 (.int .i64 n) (.int .i64 n) (.slice a l m)) := (Blk3.at_ _ _ _ _ rfl).keep hb (by simp)
    have B : Hid (Below w.heap.size w w1) := (B0.out _).trans (hb.mono (by simp))
    clear hb
    obtain ⟨a0, a1, a2, -, -, -⟩ := K0.out.all
    go_wp2_with fail
    refine (DT.out _ B.out).mono ?_
    rintro e w2 ⟨rfl, hb⟩
    have B2 : Hid (Below w.heap.size w w2) := stepB B.out hb
    clear hb a0 a1 a2
    by_cases h1 : y = badN
    · have n2 : (y == -4611686018427387904) = true := by simp [h1, badN]
      have MM := Lib.hid (M1.out h1)
      clear h1
      go_wp2_with fail
      exact bodyPost_ret (v := .tuple #[.int .i64 0, .bool false]) (by simp [results, Try.results68, go_sem]) rfl ⟨by rw [MM.out], B2.out⟩
    · have n2 : (y == -4611686018427387904) = false := by simpa [badN] using h1
      have MM := Lib.hid (M2.out h1)
      clear h1
      go_wp2_with fail
      exact bodyPost_ret (v := .tuple #[.int .i64 y, .bool true]) (by simp [results, Try.results68, go_sem]) rfl ⟨by rw [MM.out], B2.out⟩
  · have V : Hid (detOf r c xs = (0, false)) := by show detOf r c xs = _; unfold detOf; rw [if_neg (by rw [hs]; decide)]
    rw [hs] at SQ
    clear hs
    rw [V.out]
    go_enter Try.func68, Try.ntmps68
    go_wp2_with fail
    refine (SQ.out _ (B0.out _)).mono ?_
    rintro e w1 ⟨rfl, hb⟩
    have B : Hid (Below w.heap.size w w1) := (B0.out _).trans (hb.mono (by simp))
    clear hb
    go_wp2_with fail
    exact bodyPost_ret (v := .tuple #[.int .i64 0, .bool false]) (by simp [results, Try.results68, go_sem]) rfl ⟨rfl, B.out⟩
/-- What IsUnimodular answers. -/
def uniB (r c : Int) (xs : List Int) : Bool := (detOf r c xs).2 && decide ((detOf r c xs).1 = 1 ∨ (detOf r c xs).1 = -1)
theorem detOf_num (r c : Int) (xs : List Int) : NumP (detOf r c xs).1 := by
  unfold detOf
  split
  · unfold detM
    split
    · exact ⟨by decide, by decide⟩
    · rename_i h
      exact (detB_or _ _).resolve_left h
  · exact ⟨by decide, by decide⟩
end Go.Proofs.Ytcapddcmnjeloaa
end

section
/-
  Plain mathematics: a row that is filled from the left.
-/
namespace Go.Proofs.Ytcapddcmnjeloaa

/-- What has been filled in up to k. -/
def upto (n k : Nat) (f : Nat → Int) : List Int := (List.range n).map fun i => if i < k then f i else 0
theorem upto_length (n k : Nat) (f : Nat → Int) : (upto n k f).length = n := by simp [upto]
theorem upto_zero (n : Nat) (f : Nat → Int) : upto n 0 f = List.replicate n 0 := by
  apply List.ext_getElem (by simp [upto])
  intro i h1 h2
  simp [upto]
theorem upto_all (n : Nat) (f : Nat → Int) : upto n n f = (List.range n).map f := by
  apply List.ext_getElem (by simp [upto])
  intro i h1 h2
  have : i < n := by simpa [upto] using h1
  simp [upto, this]
theorem upto_at (n k : Nat) (f : Nat → Int) : (upto n k f).getD k 0 = 0 := by
  unfold upto List.getD
  rcases Nat.lt_or_ge k n with h | h
  · simp [h]
  · simp [h]
theorem upto_step (n k : Nat) (f : Nat → Int) : (upto n k f).set k (f k) = upto n (k + 1) f := by
  apply List.ext_getElem (by simp [upto])
  intro i h1 h2
  have hi : i < n := by simpa [upto] using h2
  rw [List.getElem_set]
  by_cases e : k = i
  · subst e; simp [upto]
  · simp only [e, if_false]
    simp only [upto, List.getElem_map, List.getElem_range]
    by_cases h3 : i < k
    · rw [if_pos h3, if_pos (by omega)]
    · rw [if_neg h3, if_neg (by omega)]
end Go.Proofs.Ytcapddcmnjeloaa
end

section
/-
  Plain mathematics of chapter 3: what a product and a matrix turned over are. Nothing of a program is used.
-/
namespace Go.Proofs.Ytcapddcmnjeloaa
open Go.RowKit

def turnL (R C : Nat) (xs : List Int) : List Int := tab C R fun j i => xs.getD (i * C + j) 0
/-- What is turned over so far: rows below i, and of row i the columns below j. -/
def Turned (R C : Nat) (xs : List Int) (i j : Nat) (zs : List Int) : Prop :=
  zs.length = C * R ∧ (∀ i' j' : Nat, i' < i → j' < C → zs.getD (j' * R + i') 0 = xs.getD (i' * C + j') 0) ∧ (∀ j' : Nat, j' < j → zs.getD (j' * R + i) 0 = xs.getD (i * C + j') 0)
theorem Turned.start (R C : Nat) (xs : List Int) : Turned R C xs 0 0 (List.replicate (C * R) 0) := ⟨by simp, fun _ _ h => absurd h (by omega), fun _ h => absurd h (by omega)⟩
theorem Turned.step {R C : Nat} {xs zs : List Int} {i j : Nat} (h : Turned R C xs i j zs) (hi : i < R) (hj : j < C) : Turned R C xs i (j + 1) (zs.set (j * R + i) (xs.getD (i * C + j) 0)) := by
  obtain ⟨hl, h1, h2⟩ := h
  have hb : j * R + i < zs.length := by rw [hl]; exact idx_lt hj hi
  refine ⟨by rw [List.length_set]; exact hl, fun i' j' hi' hj' => ?_, fun j' hj' => ?_⟩
  · rw [getD_set _ _ _ _ hb, if_neg (fun e => by have := (idx_inj (by omega) hi e).2; omega)]
    exact h1 i' j' hi' hj'
  · rw [getD_set _ _ _ _ hb]
    by_cases e : j' = j
    · subst e; rw [if_pos rfl]
    · rw [if_neg (fun h => e (idx_inj hi hi h).1)]
      exact h2 j' (by omega)
theorem Turned.row {R C : Nat} {xs zs : List Int} {i : Nat} (h : Turned R C xs i C zs) : Turned R C xs (i + 1) 0 zs := by
  obtain ⟨hl, h1, h2⟩ := h
  refine ⟨hl, fun i' j' hi' hj' => ?_, fun _ h => absurd h (by omega)⟩
  by_cases e : i' = i
  · subst e; exact h2 j' hj'
  · exact h1 i' j' (by omega) hj'
theorem Turned.whole {R C : Nat} {xs zs : List Int} (h : Turned R C xs R 0 zs) : zs = turnL R C xs := by
  obtain ⟨hl, h1, _⟩ := h
  exact tab_ext hl fun j i hj hi => h1 i j hi hj
/-- The sum of the first k products of row i and column j. -/
def dot (K C : Nat) (xs ys : List Int) (i j : Nat) : Nat → Int
  | 0 => 0
  | k + 1 => dot K C xs ys i j k + xs.getD (i * K + k) 0 * ys.getD (k * C + j) 0
def mulL (R K C : Nat) (xs ys : List Int) : List Int := tab R C fun i j => dot K C xs ys i j K
theorem dot_bd {K C : Nat} {xs ys : List Int} {i j : Nat} (hx : ∀ p : Nat, p < K → NumP (xs.getD (i * K + p) 0)) (hy : ∀ p : Nat, p < K → NumP (ys.getD (p * C + j) 0)) :
    ∀ k : Nat, k ≤ K → -160000000000000000 * (k : Int) ≤ dot K C xs ys i j k ∧ dot K C xs ys i j k ≤ 160000000000000000 * (k : Int) := by
  intro k
  induction k with
  | zero => intro _; simp [dot]
  | succ k ih =>
    intro hk
    have h := ih (by omega)
    have m := mul_num _ _ (hx k (by omega)) (hy k (by omega))
    simp only [dot]
    push_cast
    omega

/-- What is filled in so far, row by row. -/
def Filled (R C : Nat) (f : Nat → Nat → Int) (i j : Nat) (zs : List Int) : Prop :=
  zs.length = R * C ∧ (∀ i' j' : Nat, i' < i → j' < C → zs.getD (i' * C + j') 0 = f i' j') ∧ (∀ j' : Nat, j' < j → zs.getD (i * C + j') 0 = f i j')
theorem Filled.start (R C : Nat) (f : Nat → Nat → Int) : Filled R C f 0 0 (List.replicate (R * C) 0) := ⟨by simp, fun _ _ h => absurd h (by omega), fun _ h => absurd h (by omega)⟩
theorem Filled.step {R C : Nat} {f : Nat → Nat → Int} {zs : List Int} {i j : Nat} (h : Filled R C f i j zs) (hi : i < R) (hj : j < C) : Filled R C f i (j + 1) (zs.set (i * C + j) (f i j)) := by
  obtain ⟨hl, h1, h2⟩ := h
  have hb : i * C + j < zs.length := by rw [hl]; exact idx_lt hi hj
  refine ⟨by rw [List.length_set]; exact hl, fun i' j' hi' hj' => ?_, fun j' hj' => ?_⟩
  · rw [getD_set _ _ _ _ hb, if_neg (fun e => by have := (idx_inj hj' hj e).1; omega)]
    exact h1 i' j' hi' hj'
  · rw [getD_set _ _ _ _ hb]
    by_cases e : j' = j
    · subst e; rw [if_pos rfl]
    · rw [if_neg (fun h => e (idx_inj (by omega) hj h).2)]
      exact h2 j' (by omega)
theorem Filled.row {R C : Nat} {f : Nat → Nat → Int} {zs : List Int} {i : Nat} (h : Filled R C f i C zs) : Filled R C f (i + 1) 0 zs := by
  obtain ⟨hl, h1, h2⟩ := h
  refine ⟨hl, fun i' j' hi' hj' => ?_, fun _ h => absurd h (by omega)⟩
  by_cases e : i' = i
  · subst e; exact h2 j' hj'
  · exact h1 i' j' (by omega) hj'
theorem Filled.whole {R C : Nat} {f : Nat → Nat → Int} {zs : List Int} (h : Filled R C f R 0 zs) : zs = tab R C f := tab_ext h.1 fun i j hi hj => h.2.1 i j hi hj
def mulM (r c : Int) (xs : List Int) (r' c' : Int) (ys : List Int) : MR := if (isMat r c xs && isMat r' c' ys && decide (c = r')) = true then MR.done r c' (mulL r.toNat c.toNat c'.toNat xs ys) else MR.no
def turnM (r c : Int) (xs : List Int) : MR := if isMat r c xs = true then ⟨true, c, r, turnL r.toNat c.toNat xs⟩ else MR.no
def addL (xs ys : List Int) : List Int := (List.range xs.length).map fun i => xs.getD i 0 + ys.getD i 0
def addM (r c : Int) (xs : List Int) (r' c' : Int) (ys : List Int) : MR := if (isMat r c xs && isMat r' c' ys && decide (r = r' ∧ c = c')) = true then MR.done r c (addL xs ys) else MR.no

def scaleL (xs : List Int) (q : Int) : List Int := (List.range xs.length).map fun i => xs.getD i 0 * q
def scaleM (r c : Int) (xs : List Int) (q : Int) : MR := if (isMat r c xs && decide (NumP q)) = true then MR.done r c (scaleL xs q) else MR.no

end Go.Proofs.Ytcapddcmnjeloaa
end

section
/-
  Plain mathematics of chapter 6: elimination without fractions over lists of cells ends in the determinant. Nothing of a program is used.
-/
namespace Go.Proofs.Ytcapddcmnjeloaa

/-- The first row from p on (k rows are left) whose cell in column t is not 0; n if there is none. -/
def findP (n t : Nat) (xs : List Int) : Nat → Nat → Nat
  | 0, p => p
  | k + 1, p => if xs.getD (p * n + t) 0 = 0 then findP n t xs k (p + 1) else p
theorem findP_eq {n t : Nat} {xs : List Int} {q : Nat} (h2 : q ≤ n) (hn : q < n → xs.getD (q * n + t) 0 ≠ 0) : ∀ {k p : Nat}, p + k = n → p ≤ q → (∀ r, p ≤ r → r < q → xs.getD (r * n + t) 0 = 0) → findP n t xs k p = q := by
  intro k
  induction k with
  | zero => intro p hk h1 _; show p = q; omega
  | succ k ih =>
    intro p hk h1 hz
    show (if xs.getD (p * n + t) 0 = 0 then _ else p) = q
    rcases Nat.lt_or_ge p q with h | h
    · rw [if_pos (hz p (Nat.le_refl _) h)]
      exact ih (by omega) (by omega) fun r h3 h4 => hz r (by omega) h4
    · obtain rfl : p = q := by omega
      rw [if_neg (hn (by omega))]
def pivP (n t : Nat) (xs : List Int) : Nat := findP n t xs (n - t) t
theorem pivP_eq {n t q : Nat} {xs : List Int} (ht : t ≤ q) (h2 : q ≤ n) (hz : ∀ r, t ≤ r → r < q → xs.getD (r * n + t) 0 = 0) (hn : q < n → xs.getD (q * n + t) 0 ≠ 0) : pivP n t xs = q := findP_eq h2 hn (by omega) ht hz
theorem findP_says {n t : Nat} {xs : List Int} : ∀ {k p : Nat}, p + k = n → p ≤ findP n t xs k p ∧ findP n t xs k p ≤ n ∧ (∀ r, p ≤ r → r < findP n t xs k p → xs.getD (r * n + t) 0 = 0) ∧ (findP n t xs k p < n → xs.getD (findP n t xs k p * n + t) 0 ≠ 0) := by
  intro k
  induction k with
  | zero => intro p hk; exact ⟨Nat.le_refl _, by show p ≤ n; omega, fun r h1 h2 => absurd h2 (by show ¬ r < p; omega), fun h => absurd h (by show ¬ p < n; omega)⟩
  | succ k ih =>
    intro p hk
    by_cases h : xs.getD (p * n + t) 0 = 0
    · have e : findP n t xs (k + 1) p = findP n t xs k (p + 1) := if_pos h
      rw [e]
      obtain ⟨h1, h2, h3, h4⟩ := ih (p := p + 1) (by omega)
      refine ⟨by omega, h2, fun r h5 h6 => ?_, h4⟩
      rcases Nat.lt_or_ge p r with h7 | h7
      · exact h3 r h7 h6
      · obtain rfl : r = p := by omega
        exact h
    · have e : findP n t xs (k + 1) p = p := if_neg h
      rw [e]
      exact ⟨Nat.le_refl _, by omega, fun r h1 h2 => by omega, fun _ => h⟩
theorem pivP_says {n t : Nat} {xs : List Int} (ht : t ≤ n) : t ≤ pivP n t xs ∧ pivP n t xs ≤ n ∧ (∀ r, t ≤ r → r < pivP n t xs → xs.getD (r * n + t) 0 = 0) ∧ (pivP n t xs < n → xs.getD (pivP n t xs * n + t) 0 ≠ 0) := findP_says (by omega)
/-- The pivot's row is swapped with row t. -/
def pvL (n t : Nat) (xs : List Int) : List Int := if pivP n t xs = t then xs else opL 0 (pivP n t xs) t 0 n xs
/-- What a cell becomes in the step of row t. -/
def elAt (n t : Nat) (last : Int) (xs : List Int) (i j : Nat) : Int := (xs.getD (i * n + j) 0 * xs.getD (t * n + t) 0 - xs.getD (i * n + t) 0 * xs.getD (t * n + j) 0).tdiv last
def elL (n t : Nat) (last : Int) (xs : List Int) : List Int := tab n n fun i j => if t < i ∧ t < j then elAt n t last xs i j else xs.getD (i * n + j) 0
/-- k steps from row t on: the determinant and true, or 0 and false where a cell is beyond the limit. -/
def stR2 (n : Nat) : Nat → Nat → List Int → Int → Int → Int × Bool
  | 0, _, _, last, s => (s * last, true)
  | k + 1, t, xs, last, s =>
    if pivP n t xs = n then (0, true)
    else if nums (elL n t last (pvL n t xs)) = true then stR2 n k (t + 1) (elL n t last (pvL n t xs)) ((pvL n t xs).getD (t * n + t) 0) (if pivP n t xs = t then s else -s)
    else (0, false)
theorem stR2_none {n k t : Nat} {xs : List Int} {last s : Int} (h : pivP n t xs = n) : stR2 n (k + 1) t xs last s = (0, true) := if_pos h
theorem stR2_bad {n k t : Nat} {xs : List Int} {last s : Int} (h : pivP n t xs ≠ n) (h2 : nums (elL n t last (pvL n t xs)) ≠ true) : stR2 n (k + 1) t xs last s = (0, false) := by
  show (if _ then _ else if _ then _ else _) = _
  rw [if_neg h, if_neg h2]
theorem stR2_on {n k t : Nat} {xs : List Int} {last s : Int} (h : pivP n t xs ≠ n) (h2 : nums (elL n t last (pvL n t xs)) = true) : stR2 n (k + 1) t xs last s = stR2 n k (t + 1) (elL n t last (pvL n t xs)) ((pvL n t xs).getD (t * n + t) 0) (if pivP n t xs = t then s else -s) := by
  show (if _ then _ else if _ then _ else _) = _
  rw [if_neg h, if_pos h2]
theorem opL_swap {n p t i j : Nat} {xs : List Int} (hx : xs.length = n * n) (hi : i < n) (hj : j < n) : (opL 0 p t 0 n xs).getD (i * n + j) 0 = xs.getD ((if i = p then t else if i = t then p else i) * n + j) 0 := by
  have hp : i * n + j < xs.length := by rw [hx]; exact idx_lt hi hj
  unfold opL
  simp only [List.getD, List.getElem?_map, List.getElem?_range hp, Option.map_some, Option.getD_some]
  unfold opAt
  rw [if_pos rfl, idx_div hj, idx_mod hj]
  by_cases h1 : i = p
  · rw [if_pos h1, if_pos h1]; rfl
  · rw [if_neg h1, if_neg h1]
    by_cases h2 : i = t
    · rw [if_pos h2, if_pos h2]; rfl
    · rw [if_neg h2, if_neg h2]; rfl
theorem pvL_length (n t : Nat) (xs : List Int) : (pvL n t xs).length = xs.length := by unfold pvL; split; rfl; exact opL_length _ _ _ _ _ _
theorem pvL_at {n t i j : Nat} {xs : List Int} (hx : xs.length = n * n) (hi : i < n) (hj : j < n) : (pvL n t xs).getD (i * n + j) 0 = xs.getD ((if i = t then pivP n t xs else if i = pivP n t xs then t else i) * n + j) 0 := by
  unfold pvL
  by_cases h : pivP n t xs = t
  · rw [if_pos h, h]
    by_cases h1 : i = t
    · rw [if_pos h1, h1]
    · rw [if_neg h1, if_neg h1]
  · rw [if_neg h, opL_swap hx hi hj]
    by_cases h1 : i = t
    · rw [if_pos h1, if_neg (fun e => h (by rw [← e, h1])), if_pos h1]
    · rw [if_neg h1]
      by_cases h2 : i = pivP n t xs
      · rw [if_pos h2, if_neg h1]
      · rw [if_neg h2, if_neg h1]
theorem swR_self (A : Mx) (r : Nat) : swR A r r = A := by
  funext i j
  unfold swR
  by_cases h : i = r
  · rw [if_pos h, h]
  · rw [if_neg h, if_neg h]
/-- The steps end in the determinant. -/
theorem steps_det (n : Nat) (D : Int) (k : Nat) : ∀ (t : Nat) (xs : List Int) (last s : Int) (B : Mx) (d : Int), t + k = n → xs.length = n * n →
    (∀ i j, t ≤ i → i < n → t ≤ j → j < n → xs.getD (i * n + j) 0 = bm t i j B) → last = det t B → last ≠ 0 → s * det n B = D → stR2 n k t xs last s = (d, true) → d = D := by
  induction k with
  | zero =>
    intro t xs last s B d hk _ _ hl _ hD h
    obtain rfl : t = n := by omega
    have h : s * last = d := congrArg Prod.fst h
    rw [← h, hl, hD]
  | succ k ih =>
    intro t xs last s B d hk hx hc hl hl0 hD h
    obtain ⟨p1, p2, p3, p4⟩ := pivP_says (n := n) (t := t) (xs := xs) (by omega)
    have d0 : det t B ≠ 0 := by rw [← hl]; exact hl0
    by_cases hp : pivP n t xs = n
    · rw [stR2_none hp] at h
      have hz := no_pivot (n := n) B (by omega) d0 fun i h1 h2 => by rw [← hc i t h1 h2 (Nat.le_refl _) (by omega)]; exact p3 i h1 (by omega)
      have h : (0 : Int) = d := congrArg Prod.fst h
      rw [← h, ← hD, hz, Int.mul_zero]
    · by_cases hn : nums (elL n t last (pvL n t xs)) = true
      · rw [stR2_on hp hn] at h
        have hpn : pivP n t xs < n := by omega
        have hb := p4 hpn
        obtain ⟨p, hpe⟩ : ∃ p, pivP n t xs = p := ⟨_, rfl⟩
        have hy : ∀ i j, t ≤ i → i < n → t ≤ j → j < n → (pvL n t xs).getD (i * n + j) 0 = bm t i j (swR B t p) := fun i j h1 h2 h3 h4 => by
          rw [pvL_at hx h2 h4, hpe, bm_swap B (by omega)]
          rw [hpe] at p1 hpn
          by_cases e1 : i = t
          · rw [if_pos e1]; exact hc p j p1 hpn h3 h4
          · rw [if_neg e1]
            by_cases e2 : i = p
            · rw [if_pos e2]; exact hc t j (Nat.le_refl _) (by omega) h3 h4
            · rw [if_neg e2]; exact hc i j h1 h2 h3 h4
        have hd : det t (swR B t p) = det t B := det_swap_low B (by omega)
        have ht : t < n := by omega
        have htt := hy t t (Nat.le_refl _) ht (Nat.le_refl _) ht
        refine ih (t + 1) _ _ _ (swR B t p) d (by omega) (tab_length _ _ _) (fun i j h1 h2 h3 h4 => ?_) ?_ ?_ ?_ h
        · show (tab n n fun i j => if t < i ∧ t < j then elAt n t last (pvL n t xs) i j else (pvL n t xs).getD (i * n + j) 0).getD (i * n + j) 0 = _
          rw [tab_at n n _ h2 h4, if_pos ⟨h1, h3⟩]
          unfold elAt
          rw [hy i j (by omega) h2 (by omega) h4, htt, hy i t (by omega) h2 (Nat.le_refl _) ht, hy t j (Nat.le_refl _) ht (by omega) h4, hl, ← hd]
          have sy := sylvester t i j (swR B t p) (by rw [hd]; exact d0)
          rw [Int.mul_comm (bm t i j _), ← sy]
          exact Int.mul_tdiv_cancel_left _ (by rw [hd]; exact d0)
        · rw [htt, bm_diag]
        · rw [pvL_at hx ht ht, if_pos rfl]; exact hb
        · rw [hpe]
          by_cases e : p = t
          · rw [if_pos e, e, swR_self]; exact hD
          · rw [if_neg e, alt_swap (det_lin n) (det_alt n) (fun h => e h.symm) ht (by omega) B, Int.mul_neg, Int.neg_mul, Int.neg_neg]; exact hD
      · rw [stR2_bad hp hn] at h
        exact absurd (congrArg Prod.snd h) (by simp)
/-- What DeterminantBySteps answers, for a square matrix. -/
def stepsM (n : Nat) (xs : List Int) : Int × Bool := stR2 n n 0 xs 1 1
theorem stepsM_det {n : Nat} {xs : List Int} {d : Int} (hx : xs.length = n * n) (h : stepsM n xs = (d, true)) : d = det n (mxL n xs) :=
  steps_det n _ n 0 xs 1 1 (mxL n xs) d (by omega) hx (fun i j _ _ _ _ => (bm_zero i j (mxL n xs)).symm) rfl (by decide) (Int.one_mul _) h
end Go.Proofs.Ytcapddcmnjeloaa
end

section
/-
  What SameMatrix answers.
-/
namespace Go.Proofs.Ytcapddcmnjeloaa


/-- SameMatrix. -/
def sameM (r c : Int) (xs : List Int) (r' c' : Int) (ys : List Int) : Bool := decide (r = r' ∧ c = c' ∧ xs = ys)
end Go.Proofs.Ytcapddcmnjeloaa
end

section
/-
  Plain mathematics of chapter 3: products and matrices turned over. Nothing of a program is used.
-/
namespace Go.Proofs.Ytcapddcmnjeloaa

theorem turnL_length (R C : Nat) (xs : List Int) : (turnL R C xs).length = C * R := tab_length _ _ _
theorem turnL_at (R C : Nat) (xs : List Int) {i j : Nat} (hi : i < R) (hj : j < C) : (turnL R C xs).getD (j * R + i) 0 = xs.getD (i * C + j) 0 := by
  unfold turnL
  rw [tab_at C R _ hj hi]
theorem mulL_length (R K C : Nat) (xs ys : List Int) : (mulL R K C xs ys).length = R * C := tab_length _ _ _
theorem mulL_at (R K C : Nat) (xs ys : List Int) {i j : Nat} (hi : i < R) (hj : j < C) : (mulL R K C xs ys).getD (i * C + j) 0 = dot K C xs ys i j K := by
  unfold mulL
  rw [tab_at R C _ hi hj]
theorem turn_turn (R C : Nat) (xs : List Int) (h : xs.length = R * C) : turnL C R (turnL R C xs) = xs := by
  unfold turnL
  rw [eq_comm]
  refine tab_ext h fun i j hi hj => ?_
  exact (turnL_at R C xs hi hj).symm
theorem dot_turn (R K C : Nat) (xs ys : List Int) {i j : Nat} (hi : i < C) (hj : j < R) : ∀ k : Nat, k ≤ K → dot K R (turnL K C ys) (turnL R K xs) i j k = dot K C xs ys j i k := by
  intro k
  induction k with
  | zero => intro _; rfl
  | succ k ih =>
    intro hk
    show dot K R (turnL K C ys) (turnL R K xs) i j k + (turnL K C ys).getD (i * K + k) 0 * (turnL R K xs).getD (k * R + j) 0 = dot K C xs ys j i k + xs.getD (j * K + k) 0 * ys.getD (k * C + i) 0
    rw [ih (by omega), turnL_at K C ys (by omega) hi, turnL_at R K xs hj (by omega), Int.mul_comm]
theorem mul_turn (R K C : Nat) (xs ys : List Int) : mulL C K R (turnL K C ys) (turnL R K xs) = turnL R C (mulL R K C xs ys) := by
  unfold turnL
  refine tab_ext (mulL_length _ _ _ _ _) fun i j hi hj => ?_
  have h1 := mulL_at C K R (turnL K C ys) (turnL R K xs) hi hj
  rw [mulL_at R K C xs ys hj hi]
  unfold turnL at h1
  rw [h1]
  exact dot_turn R K C xs ys hi hj K (Nat.le_refl _)
theorem nums_of {zs : List Int} (h : ∀ q : Nat, q < zs.length → NumP (zs.getD q 0)) : nums zs = true := nums_true h
theorem isMat_turn {R C : Nat} {xs : List Int} (h : isMat R C xs = true) : isMat C R (turnL R C xs) = true := by
  obtain ⟨h1, h2, h3, h4⟩ := isMat_says h
  have hl : xs.length = R * C := by rw [← Int.natCast_mul] at h3; omega
  have hn : nums (turnL R C xs) = true := nums_of fun q hq => by
    rw [turnL_length] at hq
    have hR : 0 < R := by
      rcases Nat.eq_zero_or_pos R with e | e
      · rw [e, Nat.mul_zero] at hq; omega
      · exact e
    have hj : q / R < C := Nat.div_lt_of_lt_mul (by rw [Nat.mul_comm]; exact hq)
    have hi : q % R < R := Nat.mod_lt q hR
    have e : q / R * R + q % R = q := by rw [Nat.mul_comm]; exact Nat.div_add_mod q R
    rw [← e, turnL_at R C xs hi hj]
    exact nums_at h4 (by rw [hl]; exact idx_lt hi hj)
  unfold isMat
  rw [decide_eq_true (show SizeP (C : Int) from h2), decide_eq_true (show SizeP (R : Int) from h1), hn, decide_eq_true (show (((turnL R C xs).length : Nat) : Int) = (C : Int) * (R : Int) by rw [turnL_length, Int.natCast_mul])]
  rfl
/-- A product is none, or all is known of it. -/
theorem mul_cases (r c : Int) (xs : List Int) (r' c' : Int) (ys : List Int) : mulM r c xs r' c' ys = MR.no ∨
    ∃ R K C : Nat, r = R ∧ c = K ∧ r' = K ∧ c' = C ∧ isMat R K xs = true ∧ isMat K C ys = true ∧ isMat R C (mulL R K C xs ys) = true ∧ mulM r c xs r' c' ys = ⟨true, R, C, mulL R K C xs ys⟩ := by
  unfold mulM
  by_cases h : (isMat r c xs && isMat r' c' ys && decide (c = r')) = true
  · rw [if_pos h]
    simp only [Bool.and_eq_true, decide_eq_true_eq] at h
    obtain ⟨⟨h1, h2⟩, rfl⟩ := h
    obtain ⟨⟨a1, -⟩, ⟨a2, -⟩, -, -⟩ := isMat_says h1
    obtain ⟨-, ⟨a3, -⟩, -, -⟩ := isMat_says h2
    obtain ⟨R, rfl⟩ := Int.eq_ofNat_of_zero_le a1
    obtain ⟨K, rfl⟩ := Int.eq_ofNat_of_zero_le a2
    obtain ⟨C, rfl⟩ := Int.eq_ofNat_of_zero_le a3
    simp only [Int.toNat_natCast]
    unfold MR.done
    by_cases h3 : isMat R C (mulL R K C xs ys) = true
    · rw [if_pos h3]
      exact .inr ⟨R, K, C, rfl, rfl, rfl, rfl, h1, h2, h3, rfl⟩
    · rw [if_neg h3]
      exact .inl rfl
  · rw [if_neg h]
    exact .inl rfl
theorem turnM_ok {R C : Nat} {xs : List Int} (h : isMat R C xs = true) : turnM R C xs = ⟨true, C, R, turnL R C xs⟩ := by
  unfold turnM
  rw [if_pos h]
  simp only [Int.toNat_natCast]
theorem mulM_ok {R K C : Nat} {xs ys : List Int} (h : isMat R K xs = true) (h' : isMat K C ys = true) (h3 : isMat R C (mulL R K C xs ys) = true) : mulM R K xs K C ys = ⟨true, R, C, mulL R K C xs ys⟩ := by
  unfold mulM MR.done
  rw [h, h', decide_eq_true rfl]
  simp only [Int.toNat_natCast, Bool.and_true, if_true]
  rw [if_pos h3]
theorem sameM_self (r c : Int) (zs : List Int) : sameM r c zs r c zs = true := decide_eq_true ⟨rfl, rfl, rfl⟩
end Go.Proofs.Ytcapddcmnjeloaa
end

section
/-
  Plain mathematics of chapter 3: products can be grouped in any way, and distribute over sums. Nothing of a program is used.
-/
namespace Go.Proofs.Ytcapddcmnjeloaa

theorem dot_sum (K C : Nat) (xs ys : List Int) (i j : Nat) : ∀ n : Nat, dot K C xs ys i j n = sumN n (fun k => xs.getD (i * K + k) 0 * ys.getD (k * C + j) 0) := by
  intro n
  induction n with
  | zero => rfl
  | succ n ih => show dot K C xs ys i j n + _ = _; rw [ih]; rfl
theorem mul_assoc (R K C D : Nat) (xs ys zs : List Int) : mulL R C D (mulL R K C xs ys) zs = mulL R K D xs (mulL K C D ys zs) := by
  refine tab_ext (mulL_length _ _ _ _ _) fun i j hi hj => ?_
  rw [mulL_at R C D _ _ hi hj, dot_sum, dot_sum]
  have h1 : sumN C (fun k => (mulL R K C xs ys).getD (i * C + k) 0 * zs.getD (k * D + j) 0) = sumN C (fun k => sumN K (fun l => xs.getD (i * K + l) 0 * ys.getD (l * C + k) 0 * zs.getD (k * D + j) 0)) := by
    refine sumN_congr fun k hk => ?_
    rw [mulL_at R K C xs ys hi hk, dot_sum, sumN_mul]
  have h2 : sumN K (fun l => xs.getD (i * K + l) 0 * (mulL K C D ys zs).getD (l * D + j) 0) = sumN K (fun l => sumN C (fun k => xs.getD (i * K + l) 0 * ys.getD (l * C + k) 0 * zs.getD (k * D + j) 0)) := by
    refine sumN_congr fun l hl => ?_
    rw [mulL_at K C D ys zs hl hj, dot_sum, sumN_mul_left]
    exact sumN_congr fun k _ => (Int.mul_assoc _ _ _).symm
  rw [h1, h2, sumN_swap]
theorem addL_at (xs ys : List Int) (i : Nat) (h : i < xs.length) : (addL xs ys).getD i 0 = xs.getD i 0 + ys.getD i 0 := by
  simp [addL, List.getD, h]
theorem addL_length (xs ys : List Int) : (addL xs ys).length = xs.length := by simp [addL]
theorem scale_two (xs : List Int) : scaleL xs 2 = addL xs xs := by
  unfold scaleL addL
  refine List.map_congr_left fun i _ => ?_
  omega
theorem mul_double (R K C : Nat) (xs ys : List Int) (hy : ys.length = K * C) : mulL R K C xs (addL ys ys) = addL (mulL R K C xs ys) (mulL R K C xs ys) := by
  refine list_eq (n := R * C) (mulL_length _ _ _ _ _) (by rw [addL_length, mulL_length]) fun p hp => ?_
  have hC : 0 < C := by
    rcases Nat.eq_zero_or_pos C with e | e
    · rw [e, Nat.mul_zero] at hp; omega
    · exact e
  have hi : p / C < R := Nat.div_lt_of_lt_mul (by rw [Nat.mul_comm]; exact hp)
  have hj : p % C < C := Nat.mod_lt p hC
  have e : p / C * C + p % C = p := by rw [Nat.mul_comm]; exact Nat.div_add_mod p C
  rw [addL_at _ _ _ (by rw [mulL_length]; exact hp)]
  rw [← e, mulL_at R K C xs _ hi hj, mulL_at R K C xs ys hi hj, dot_sum, dot_sum, ← sumN_add]
  refine sumN_congr fun k hk => ?_
  rw [addL_at _ _ _ (by rw [hy]; exact idx_lt hk hj), Int.mul_add]
/-- Products can be grouped in any way. -/
theorem ring_assoc {R K C : Nat} {xs ys zs : List Int} {r c : Int} {y z w : MR}
    (hy : mulM R C (mulL R K C xs ys) r c zs = y) (hz : mulM K C ys r c zs = z) (hw : mulM R K xs z.r z.c z.zs = w) (oy : y.ok = true) (oz : z.ok = true) (ow : w.ok = true) : y = w := by
  rcases mul_cases R C (mulL R K C xs ys) r c zs with h | ⟨R', C', D, e1, e2, e3, e4, -, m2, -, h⟩
  · rw [h] at hy; rw [← hy] at oy; cases oy
  obtain rfl : R = R' := by omega
  obtain rfl : C = C' := by omega
  subst e3 e4
  rw [h] at hy
  rcases mul_cases K C ys C D zs with h' | ⟨K', C'', D', e1, e2, e3, e4, -, -, m3, h'⟩
  · rw [h'] at hz; rw [← hz] at oz; cases oz
  obtain rfl : K = K' := by omega
  obtain rfl : C = C'' := by omega
  obtain rfl : D = D' := by omega
  rw [h'] at hz
  rw [← hz] at hw
  dsimp only at hw
  rcases mul_cases R K xs K D (mulL K C D ys zs) with h'' | ⟨R'', K'', D'', e1, e2, e3, e4, -, -, -, h''⟩
  · rw [h''] at hw; rw [← hw] at ow; cases ow
  rw [← hy, ← hw, h'', mul_assoc]
  obtain rfl : R = R'' := by omega
  obtain rfl : K = K'' := by omega
  obtain rfl : D = D'' := by omega
  rfl
theorem add_cases {R C : Nat} {xs : List Int} (h : isMat R C xs = true) : addM R C xs R C xs = MR.no ∨ (addM R C xs R C xs = ⟨true, R, C, addL xs xs⟩ ∧ isMat R C (addL xs xs) = true) := by
  unfold addM MR.done
  rw [h, decide_eq_true (show (R : Int) = R ∧ (C : Int) = C from ⟨rfl, rfl⟩)]
  simp only [Bool.and_self, if_true]
  by_cases h2 : isMat R C (addL xs xs) = true
  · rw [if_pos h2]; exact .inr ⟨rfl, h2⟩
  · rw [if_neg h2]; exact .inl rfl
/-- Products distribute over sums. -/
theorem ring_dist {R K C : Nat} {xs ys : List Int} (h2 : isMat K C ys = true) (h3 : isMat R C (mulL R K C xs ys) = true) {s t u v : MR}
    (hs : addM K C ys K C ys = s) (ht : mulM R K xs s.r s.c s.zs = t) (hu : addM R C (mulL R K C xs ys) R C (mulL R K C xs ys) = u) (hv : scaleM R C (mulL R K C xs ys) 2 = v)
    (os : s.ok = true) (ot : t.ok = true) (ou : u.ok = true) : t = u ∧ u = v := by
  have ly : ys.length = K * C := by
    obtain ⟨-, -, l, -⟩ := isMat_says h2
    rw [← Int.natCast_mul] at l; omega
  rcases add_cases h2 with h | ⟨h, m⟩
  · rw [h] at hs; rw [← hs] at os; cases os
  rw [h] at hs
  rcases add_cases h3 with h' | ⟨h', m'⟩
  · rw [h'] at hu; rw [← hu] at ou; cases ou
  rw [h'] at hu
  have hv2 : v = ⟨true, R, C, addL (mulL R K C xs ys) (mulL R K C xs ys)⟩ := by
    rw [← hv]
    unfold scaleM MR.done
    rw [h3, scale_two, decide_eq_true (show NumP 2 by unfold NumP; omega)]
    simp only [Bool.and_self, if_true]
    rw [if_pos m']
  rw [← hs] at ht
  dsimp only at ht
  rcases mul_cases R K xs K C (addL ys ys) with h'' | ⟨R'', K'', C'', e1, e2, e3, e4, -, -, -, h''⟩
  · rw [h''] at ht; rw [← ht] at ot; cases ot
  rw [h''] at ht
  obtain rfl : R = R'' := by omega
  obtain rfl : K = K'' := by omega
  obtain rfl : C = C'' := by omega
  refine ⟨?_, ?_⟩
  · rw [← ht, ← hu, mul_double R K C xs ys ly]
  · rw [← hu, hv2]
end Go.Proofs.Ytcapddcmnjeloaa
end

section
/-
  Chapter 3, in the model: a matrix that is done.
-/
namespace Go.Proofs.Ytcapddcmnjeloaa
open Go.RowKit

/-- A matrix that is handed on if it is valid. -/
def DoneRes (r c : Int) (v : Value) (ok : Bool) : Value := if ok = true then .tuple #[.agg #[.int .i64 r, .int .i64 c, v], .bool true] else .tuple #[.agg #[.int .i64 0, .int .i64 0, .slice none 0 0], .bool false]

end Go.Proofs.Ytcapddcmnjeloaa
end

section
/-
  Chapter 5, in the model: DoRowOp.
-/
namespace Go.Proofs.Ytcapddcmnjeloaa
set_option maxRecDepth 100000
open Go.RowKit

def opM (k i j t r c : Int) (xs : List Int) : MR := if (isMat r c xs && isOp k i j t r) = true then MR.done r c (opL k i.toNat j.toNat t c.toNat xs) else MR.no
theorem isOp_says {k i j t r : Int} (h : isOp k i j t r = true) : (k = 0 ∨ k = 1 ∨ k = 2) ∧ (0 ≤ r ∧ r ≤ 24) ∧ (0 ≤ i ∧ i < r) ∧ (0 ≤ j ∧ j < r) ∧ NumP t ∧ (k = 0 → i ≠ j) := by
  unfold isOp rangeOp at h
  simp only [Bool.and_eq_true, decide_eq_true_eq] at h
  obtain ⟨⟨⟨⟨⟨h1, h2⟩, h3⟩, h4⟩, h5⟩, h6⟩ := h
  refine ⟨by omega, h2, by omega, by omega, h5, ?_⟩
  rintro rfl
  simp at h6
  exact fun e => h6.1 e.symm
end Go.Proofs.Ytcapddcmnjeloaa
end
