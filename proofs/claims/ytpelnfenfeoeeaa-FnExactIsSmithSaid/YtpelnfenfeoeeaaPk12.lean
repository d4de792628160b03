/-
  Texts of this seat, joined: ModM · ModD · ChiM · MinM · MinS · SmF · SmG · SmH · SmK · SmJ
-/
import Derived.Test.YtpelnfenfeoeeaaPk1
import Derived.Test.YtpelnfenfeoeeaaPk2
import Derived.Test.YtpelnfenfeoeeaaPk3

section
/-
  Plain mathematics of chapter 8: residues. Nothing of a program is used.
-/
namespace Go.Proofs.Ytpelnfenfeoeeaa

/-- Two numbers have one residue. -/
def Cg (p a b : Int) : Prop := p ∣ a - b
theorem Cg.refl (p a : Int) : Cg p a a := ⟨0, by omega⟩
theorem Cg.of_eq {p a b : Int} (h : a = b) : Cg p a b := h ▸ Cg.refl p a
theorem Cg.symm {p a b : Int} (h : Cg p a b) : Cg p b a := by
  obtain ⟨k, hk⟩ := h
  exact ⟨-k, by rw [Int.mul_neg, ← hk]; omega⟩
theorem Cg.trans {p a b c : Int} (h : Cg p a b) (h' : Cg p b c) : Cg p a c := by
  obtain ⟨k, hk⟩ := h
  obtain ⟨l, hl⟩ := h'
  exact ⟨k + l, by rw [Int.mul_add, ← hk, ← hl]; omega⟩
theorem Cg.add {p a b c d : Int} (h : Cg p a b) (h' : Cg p c d) : Cg p (a + c) (b + d) := by
  obtain ⟨k, hk⟩ := h
  obtain ⟨l, hl⟩ := h'
  exact ⟨k + l, by rw [Int.mul_add, ← hk, ← hl]; omega⟩
theorem Cg.neg {p a b : Int} (h : Cg p a b) : Cg p (-a) (-b) := by
  obtain ⟨k, hk⟩ := h
  exact ⟨-k, by rw [Int.mul_neg, ← hk]; omega⟩
theorem Cg.sub {p a b c d : Int} (h : Cg p a b) (h' : Cg p c d) : Cg p (a - c) (b - d) := by
  obtain ⟨k, hk⟩ := h
  obtain ⟨l, hl⟩ := h'
  exact ⟨k - l, by rw [Int.mul_sub, ← hk, ← hl]; omega⟩
theorem Cg.mul {p a b c d : Int} (h : Cg p a b) (h' : Cg p c d) : Cg p (a * c) (b * d) := by
  obtain ⟨k, hk⟩ := h
  obtain ⟨l, hl⟩ := h'
  refine ⟨k * c + b * l, ?_⟩
  have e1 : a = b + p * k := by omega
  have e2 : c = d + p * l := by omega
  rw [e1, e2]
  grind
theorem Cg.mul_left {p a b : Int} (x : Int) (h : Cg p a b) : Cg p (x * a) (x * b) := (Cg.refl p x).mul h
theorem Cg.emod (p a : Int) : Cg p (a % p) a := ⟨-(a / p), by rw [Int.emod_def, Int.mul_neg]; omega⟩
theorem Cg.eq {p a b : Int} (ha : 0 ≤ a ∧ a < p) (hb : 0 ≤ b ∧ b < p) (h : Cg p a b) : a = b := by
  obtain ⟨k, hk⟩ := h
  have hp : 0 < p := by omega
  have h1 : a - b < p := by omega
  have h2 : -p < a - b := by omega
  rw [hk] at h1 h2
  have h3 : k < 1 := Int.lt_of_mul_lt_mul_left (a := p) (by rw [Int.mul_one]; exact h1) (by omega)
  have h4 : -1 < k := Int.lt_of_mul_lt_mul_left (a := p) (by rw [Int.mul_neg, Int.mul_one]; exact h2) (by omega)
  obtain rfl : k = 0 := by omega
  rw [Int.mul_zero] at hk
  omega
theorem Cg.zero {p a : Int} : Cg p a 0 ↔ p ∣ a := by unfold Cg; rw [Int.sub_zero]
theorem Cg.of_emod {p a b : Int} (h : a % p = b % p) : Cg p a b := ((Cg.emod p a).symm.trans (Cg.of_eq h)).trans (Cg.emod p b)
theorem Cg.emod_eq {p a b : Int} (hp : 0 < p) (h : Cg p a b) : a % p = b % p :=
  Cg.eq ⟨Int.emod_nonneg _ (by omega), Int.emod_lt_of_pos _ hp⟩ ⟨Int.emod_nonneg _ (by omega), Int.emod_lt_of_pos _ hp⟩ (((Cg.emod p a).trans h).trans (Cg.emod p b).symm)
theorem Cg.sum {p : Int} {n : Nat} {f g : Nat → Int} (h : ∀ i, i < n → Cg p (f i) (g i)) : Cg p (sumN n f) (sumN n g) := by
  induction n with
  | zero => exact Cg.refl _ _
  | succ n ih => exact (ih fun i hi => h i (by omega)).add (h n (by omega))
/-- Go's remainder, brought above 0. -/
theorem mod_go {n p : Int} (hp : 0 < p) : (n.tmod p + p).tmod p = n % p := by
  have h1 : -p < n.tmod p := by
    have := Int.lt_tmod_of_pos n hp
    omega
  rw [Int.tmod_eq_emod_of_nonneg (by omega), Int.add_emod_right]
  refine Cg.emod_eq hp ?_
  exact ⟨-(n.tdiv p), by rw [Int.tmod_def, Int.mul_neg]; omega⟩
/-- A prime number, as its check by small divisors tells. -/
def Prm (p : Int) : Prop := 2 ≤ p ∧ ∀ d : Int, 2 ≤ d → d * d ≤ p → ¬ d ∣ p
theorem Prm.div {p d : Int} (h : Prm p) (hd : 0 < d) (h1 : d ∣ p) : d = 1 ∨ d = p := by
  obtain ⟨e, he⟩ := h1
  obtain ⟨h2, h3⟩ := h
  have e0 : 0 < e := by
    have : 0 < d * e := by omega
    exact Int.pos_of_mul_pos_right this hd
  by_cases d1 : d = 1
  · exact .inl d1
  · by_cases e1 : e = 1
    · rw [e1, Int.mul_one] at he; exact .inr he.symm
    · exfalso
      rcases Int.lt_or_le e d with hl | hl
      · refine h3 e (by omega) ?_ ⟨d, by rw [he, Int.mul_comm]⟩
        rw [he]
        exact Int.mul_le_mul_of_nonneg_right (by omega) (by omega)
      · refine h3 d (by omega) ?_ ⟨e, he⟩
        rw [he]
        exact Int.mul_le_mul_of_nonneg_left hl (by omega)
theorem Prm.gcd {p a : Int} (h : Prm p) (ha : ¬ p ∣ a) : (a.gcd p : Int) = 1 := by
  have h0 : 0 < (a.gcd p : Int) := by
    have := Int.gcd_pos_of_ne_zero_right a (show p ≠ 0 by have := h.1; omega)
    omega
  rcases h.div h0 (Int.gcd_dvd_right ..) with e | e
  · exact e
  · exact absurd (by have := Int.gcd_dvd_left a p; rw [e] at this; exact this) ha
theorem Prm.mul {p a b : Int} (h : Prm p) (hd : p ∣ a * b) : p ∣ a ∨ p ∣ b := by
  by_cases ha : p ∣ a
  · exact .inl ha
  · right
    have hg := h.gcd ha
    have hc : Nat.Coprime p.natAbs a.natAbs := by
      unfold Nat.Coprime
      rw [Nat.gcd_comm]
      have : a.gcd p = Nat.gcd a.natAbs p.natAbs := rfl
      omega
    have h1 : p.natAbs ∣ a.natAbs * b.natAbs := by
      rw [← Int.natAbs_mul]
      exact Int.natAbs_dvd_natAbs.mpr hd
    exact Int.natAbs_dvd_natAbs.mp (hc.dvd_of_dvd_mul_left h1)
/-- What a factor that is not 0 takes to one residue has one residue. -/
theorem Prm.cancel {p a x y : Int} (h : Prm p) (ha : ¬ p ∣ a) (hc : Cg p (a * x) (a * y)) : Cg p x y := by
  have h1 : p ∣ a * (x - y) := by rw [Int.mul_sub]; exact hc
  exact (h.mul h1).resolve_left ha
theorem Prm.one {p : Int} (h : Prm p) : ¬ p ∣ 1 := fun hd => by
  have := Int.le_of_dvd (by decide) hd
  have := h.1
  omega
/-- An inverse of a residue. -/
def InvP (p a x : Int) : Prop := Cg p (a * x) 1
theorem InvP.ne {p a x : Int} (hp : Prm p) (h : InvP p a x) : ¬ p ∣ a := fun hd => by
  refine hp.one ?_
  have h1 : Cg p (a * x) 0 := Cg.zero.mpr (Int.dvd_trans hd (Int.dvd_mul_right _ _))
  exact Cg.zero.mp (h.symm.trans h1)
theorem InvP.uniq {p a x y : Int} (hp : Prm p) (h : InvP p a x) (h' : InvP p a y) : Cg p x y := hp.cancel (h.ne hp) (h.trans h'.symm)
theorem InvP.nz {p a x : Int} (hp : Prm p) (h : InvP p a x) : ¬ p ∣ x := InvP.ne (a := x) (x := a) hp (by unfold InvP at *; rw [Int.mul_comm]; exact h)
end Go.Proofs.Ytpelnfenfeoeeaa
end

section
/-
  Plain mathematics of chapter 8: determinants over residues. Nothing of a program is used.
-/
namespace Go.Proofs.Ytpelnfenfeoeeaa

theorem det_cg {p : Int} {n : Nat} {A B : Mx} (h : ∀ i j, i < n → j < n → Cg p (A i j) (B i j)) : Cg p (det n A) (det n B) := by
  induction n generalizing A B with
  | zero => exact Cg.refl _ _
  | succ n ih =>
    rw [det_succ, det_succ]
    exact Cg.sum fun i hi => ((Cg.refl p (sg i)).mul (h i 0 hi (by omega))).mul (ih fun a b ha hb => h _ _ (skp_lt ha) (skp_lt hb))
theorem det_swap {n r s : Nat} (A : Mx) (hr : r < n) (hs : s < n) (h : r ≠ s) : det n (swR A r s) = -det n A := by
  refine swap_of (det_lin n) ?_ h hr hs A
  rcases Nat.lt_or_ge r s with h1 | h1
  · exact det_alt n r s h1 hs
  · exact fun A hA => det_alt n s r (by omega) hr A fun c hc => (hA c hc).symm
theorem det_scale {n t : Nat} (A : Mx) (z : Int) (ht : t < n) : det n (stR A t fun q => z * A t q) = z * det n A := by
  have h := det_lin n A t (A t) (A t) z 0 ht
  rw [stR_self, Int.zero_mul, Int.add_zero] at h
  rw [← h]
  refine congrArg _ ?_
  funext i j
  unfold stR
  split
  · show z * A t j = z * A t j + 0 * A t j
    rw [Int.zero_mul, Int.add_zero]
  · rfl
theorem det_less {n i t : Nat} (A : Mx) (x : Int) (hi : i < n) (ht : t < n) (h : i ≠ t) : det n (stR A i fun q => A i q - x * A t q) = det n A := by
  have h1 := det_lin n A i (A i) (A t) 1 (-x) hi
  have h0 : det n (stR A i (A t)) = 0 := by
    have e : ∀ c, stR A i (A t) i c = stR A i (A t) t c := fun c => by rw [stR_at, stR_ne _ _ _ _ _ (fun e => h e.symm)]
    rcases Nat.lt_or_ge i t with h2 | h2
    · exact det_alt n i t h2 ht _ fun c _ => e c
    · exact det_alt n t i (by omega) hi _ fun c _ => (e c).symm
  rw [stR_self, h0, Int.mul_zero, Int.add_zero, Int.one_mul] at h1
  rw [← h1]
  refine congrArg _ ?_
  funext a b
  unfold stR
  split
  · show A i b - x * A t b = 1 * A i b + -x * A t b
    rw [Int.one_mul, Int.neg_mul]; omega
  · rfl
/-- A row of zeros. -/
theorem det_zero_row {p : Int} {n i : Nat} {A : Mx} (hi : i < n) (h : ∀ j, j < n → Cg p (A i j) 0) : Cg p (det n A) 0 := by
  have h1 : Cg p (det n A) (det n (stR A i fun q => 0 * A i q)) := det_cg fun a b ha hb => by
    unfold stR
    by_cases e : a = i
    · rw [if_pos e, e]
      show Cg p (A i b) (0 * A i b)
      rw [Int.zero_mul]; exact h b hb
    · rw [if_neg e]; exact Cg.refl _ _
  rw [det_scale A 0 hi, Int.zero_mul] at h1
  exact h1
theorem mulX_cg {p : Int} {n : Nat} {A B C D : Mx} (h : ∀ i j, i < n → j < n → Cg p (A i j) (B i j)) (h' : ∀ i j, i < n → j < n → Cg p (C i j) (D i j)) : ∀ i j, i < n → j < n → Cg p (mulX n A C i j) (mulX n B D i j) := fun i j hi hj => Cg.sum fun k hk => (h i k hi hk).mul (h' k j hk hj)
/-- V is an inverse of M over the residues. -/
def InvX (p : Int) (n : Nat) (M V : Mx) : Prop := ∀ i j, i < n → j < n → Cg p (mulX n V M i j) (idX i j)
theorem InvX.dets {p : Int} {n : Nat} {M V : Mx} (h : InvX p n M V) : Cg p (det n V * det n M) 1 := by
  rw [← det_mul, ← det_id n]
  exact det_cg h
theorem InvX.ne {p : Int} (hp : Prm p) {n : Nat} {M V : Mx} (h : InvX p n M V) : ¬ p ∣ det n M := fun hd =>
  InvP.ne (a := det n M) (x := det n V) hp (by unfold InvP; rw [Int.mul_comm]; exact h.dets) hd
theorem mulX_one {n : Nat} (A : Mx) {i j : Nat} (hj : j < n) : mulX n A idX i j = A i j := by
  show (sumN n fun k => A i k * idX k j) = _
  rw [sumN_one (a := j) hj (fun k _ hne => by unfold idX; rw [if_neg hne, Int.mul_zero])]
  unfold idX
  rw [if_pos rfl, Int.mul_one]
theorem one_mulX {n : Nat} (A : Mx) {i j : Nat} (hi : i < n) : mulX n idX A i j = A i j := by
  show (sumN n fun k => idX i k * A k j) = _
  rw [sumN_one (a := i) hi (fun k _ hne => by unfold idX; rw [if_neg (fun e => hne e.symm), Int.zero_mul])]
  unfold idX
  rw [if_pos rfl, Int.one_mul]
theorem mulX_grp {n : Nat} (A B C : Mx) (i j : Nat) : mulX n (mulX n A B) C i j = mulX n A (mulX n B C) i j := by
  show (sumN n fun k => (sumN n fun l => A i l * B l k) * C k j) = sumN n fun l => A i l * sumN n fun k => B l k * C k j
  have e1 : (sumN n fun k => (sumN n fun l => A i l * B l k) * C k j) = sumN n fun k => sumN n fun l => A i l * B l k * C k j := sumN_congr fun k _ => sumN_mul _ _ _
  rw [e1, sumN_swap]
  refine sumN_congr fun l _ => ?_
  rw [sumN_mul_left]
  exact sumN_congr fun k _ => by rw [Int.mul_assoc]
/-- Inverses from the left and from the right are the same. -/
theorem InvX.both {p : Int} {n : Nat} {M V W : Mx} (h : InvX p n M V) (h' : ∀ i j, i < n → j < n → Cg p (mulX n M W i j) (idX i j)) : ∀ i j, i < n → j < n → Cg p (V i j) (W i j) := fun i j hi hj => by
  have e1 : Cg p (mulX n V (mulX n M W) i j) (V i j) := (mulX_cg (fun a b _ _ => Cg.refl _ _) h' i j hi hj).trans (Cg.of_eq (mulX_one V hj))
  have e2 : Cg p (mulX n (mulX n V M) W i j) (W i j) := (mulX_cg h (fun a b _ _ => Cg.refl _ _) i j hi hj).trans (Cg.of_eq (one_mulX W hi))
  rw [mulX_grp] at e2
  exact e1.symm.trans e2
/-- A left inverse is a right inverse. -/
theorem InvX.right {p : Int} {n : Nat} {M V : Mx} (h : InvX p n M V) : ∀ i j, i < n → j < n → Cg p (mulX n M V i j) (idX i j) := by
  cases n with
  | zero => intro i j hi _; omega
  | succ n =>
    have hw : ∀ i j, i < n + 1 → j < n + 1 → Cg p (mulX (n + 1) M (fun a b => det (n + 1) V * adjX n M a b) i j) (idX i j) := fun i j hi hj => by
      have e : mulX (n + 1) M (fun a b => det (n + 1) V * adjX n M a b) i j = det (n + 1) V * mulX (n + 1) M (adjX n M) i j := by
        show (sumN (n + 1) fun k => M i k * (det (n + 1) V * adjX n M k j)) = det (n + 1) V * sumN (n + 1) fun k => M i k * adjX n M k j
        rw [sumN_mul_left]
        exact sumN_congr fun k _ => by grind
      rw [e, mul_adj n M i j hi hj]
      unfold idX
      by_cases hij : i = j
      · rw [if_pos hij, if_pos hij]; exact h.dets
      · rw [if_neg hij, if_neg hij, Int.mul_zero]; exact Cg.refl _ _
    have hb := h.both hw
    exact fun i j hi hj => (mulX_cg (fun a b _ _ => Cg.refl p (M a b)) hb i j hi hj).trans (hw i j hi hj)
theorem InvX.uniq {p : Int} {n : Nat} {M V W : Mx} (h : InvX p n M V) (h' : InvX p n M W) : ∀ i j, i < n → j < n → Cg p (V i j) (W i j) := h.both h'.right
end Go.Proofs.Ytpelnfenfeoeeaa
end

section
/-
  Plain mathematics of chapter 9: the bound of a determinant by its rows, Chinese remainders, symmetric residues. Nothing of a program is used.
-/
namespace Go.Proofs.Ytpelnfenfeoeeaa

/-! ### Products -/
def prodI (f : Nat → Int) : Nat → Int
  | 0 => 1
  | k + 1 => prodI f k * f k
theorem prodI_congr {f g : Nat → Int} : ∀ {n : Nat}, (∀ i, i < n → f i = g i) → prodI f n = prodI g n
  | 0, _ => rfl
  | n + 1, h => by
    show prodI f n * f n = prodI g n * g n
    rw [prodI_congr fun i hi => h i (by omega), h n (by omega)]
theorem prodI_first (f : Nat → Int) : ∀ n, prodI f (n + 1) = f 0 * prodI (fun i => f (i + 1)) n
  | 0 => by show 1 * f 0 = f 0 * 1; omega
  | n + 1 => by
    show prodI f (n + 1) * f (n + 1) = f 0 * (prodI (fun i => f (i + 1)) n * f (n + 1))
    rw [prodI_first f n, Int.mul_assoc]
theorem prodI_nonneg {f : Nat → Int} : ∀ {n : Nat}, (∀ i, i < n → 0 ≤ f i) → 0 ≤ prodI f n
  | 0, _ => by show (0 : Int) ≤ 1; decide
  | n + 1, h => Int.mul_nonneg (prodI_nonneg fun i hi => h i (by omega)) (h n (by omega))
theorem prodI_pos {f : Nat → Int} : ∀ {n : Nat}, (∀ i, i < n → 0 < f i) → 0 < prodI f n
  | 0, _ => by show (0 : Int) < 1; decide
  | n + 1, h => Int.mul_pos (prodI_pos fun i hi => h i (by omega)) (h n (by omega))
theorem prodI_mono {f g : Nat → Int} : ∀ {n : Nat}, (∀ i, i < n → 0 ≤ f i ∧ f i ≤ g i) → prodI f n ≤ prodI g n
  | 0, _ => Int.le_refl _
  | n + 1, h => Int.mul_le_mul (prodI_mono fun i hi => h i (by omega)) (h n (by omega)).2 (h n (by omega)).1 (prodI_nonneg fun i hi => by have := h i (by omega); omega)
theorem prodI_dvd {f : Nat → Int} : ∀ {n i : Nat}, i < n → f i ∣ prodI f n
  | 0, i, h => by omega
  | n + 1, i, h => by
    rcases Nat.lt_or_ge i n with h1 | h1
    · exact Int.dvd_trans (prodI_dvd h1) (Int.dvd_mul_right _ _)
    · obtain rfl : i = n := by omega
      exact Int.dvd_mul_left _ _

/-! ### The bound of a determinant -/
theorem sumN_le {n : Nat} {f g : Nat → Int} (h : ∀ i, i < n → f i ≤ g i) : sumN n f ≤ sumN n g := by
  induction n with
  | zero => exact Int.le_refl _
  | succ n ih => exact Int.add_le_add (ih fun i hi => h i (by omega)) (h n (by omega))
theorem sumN_nonneg {n : Nat} {f : Nat → Int} (h : ∀ i, i < n → 0 ≤ f i) : 0 ≤ sumN n f := by
  have := sumN_le h
  rw [sumN_zero] at this
  exact this
theorem sumN_abs (n : Nat) (f : Nat → Int) : ((sumN n f).natAbs : Int) ≤ sumN n fun i => ((f i).natAbs : Int) := by
  induction n with
  | zero => exact Int.le_refl _
  | succ n ih =>
    show ((sumN n f + f n).natAbs : Int) ≤ (sumN n fun i => ((f i).natAbs : Int)) + ((f n).natAbs : Int)
    have := Int.natAbs_add_le (sumN n f) (f n)
    omega
/-- Leaving one out of a sum of numbers that are not below 0. -/
theorem sumN_less {f : Nat → Int} (j : Nat) : ∀ n, j < n + 1 → (∀ i, i < n + 1 → 0 ≤ f i) → (sumN n fun k => f (skp j k)) ≤ sumN (n + 1) f := by
  intro n hj h
  have key : ∀ m, m ≤ n → (sumN m fun k => f (skp j k)) + (if j < m then f j - f m else 0) ≤ sumN m f := by
    intro m
    induction m with
    | zero => intro _; rw [if_neg (by omega)]; exact Int.le_refl _
    | succ m ih =>
      intro hm
      have i1 := ih (by omega)
      show (sumN m fun k => f (skp j k)) + f (skp j m) + (if j < m + 1 then f j - f (m + 1) else 0) ≤ sumN m f + f m
      by_cases h1 : j < m
      · rw [if_pos h1] at i1
        have e : skp j m = m + 1 := by unfold skp; rw [if_neg (by omega)]
        rw [if_pos (by omega), e]
        omega
      · rw [if_neg h1] at i1
        by_cases h2 : j = m
        · have e : skp j m = m + 1 := by unfold skp; rw [if_neg (by omega)]
          rw [if_pos (by omega), e]
          have : f j = f m := by rw [h2]
          omega
        · have e : skp j m = m := by unfold skp; rw [if_pos (by omega)]
          rw [if_neg (by omega), e]
          omega
  have k1 := key n (Nat.le_refl n)
  show _ ≤ sumN n f + f n
  have h1 := h j hj
  have h2 := h n (by omega)
  by_cases e : j < n
  · rw [if_pos e] at k1; omega
  · rw [if_neg e] at k1; omega
/-- The sum of the absolute values of a row. -/
def absR (n : Nat) (A : Mx) (i : Nat) : Int := sumN n fun j => ((A i j).natAbs : Int)
theorem absR_nonneg (n : Nat) (A : Mx) (i : Nat) : 0 ≤ absR n A i := sumN_nonneg fun _ _ => Int.natCast_nonneg _
theorem det_bound : ∀ (n : Nat) (A : Mx), ((det n A).natAbs : Int) ≤ prodI (absR n A) n
  | 0, A => by show ((1 : Int).natAbs : Int) ≤ 1; decide
  | n + 1, A => by
    rw [det_row, prodI_first]
    refine Int.le_trans (sumN_abs _ _) ?_
    unfold absR
    rw [sumN_mul]
    refine sumN_le fun j hj => ?_
    have e : ((sg j * A 0 j * det n (mnr A 0 j)).natAbs : Int) = ((A 0 j).natAbs : Int) * ((det n (mnr A 0 j)).natAbs : Int) := by
      rw [Int.natAbs_mul, Int.natAbs_mul]
      have : (sg j).natAbs = 1 := by unfold sg; split <;> rfl
      rw [this, Nat.one_mul, Int.natCast_mul]
    rw [e]
    refine Int.mul_le_mul_of_nonneg_left ?_ (Int.natCast_nonneg _)
    refine Int.le_trans (det_bound n (mnr A 0 j)) (prodI_mono fun i hi => ⟨absR_nonneg _ _ _, ?_⟩)
    show (sumN n fun k => ((mnr A 0 j i k).natAbs : Int)) ≤ sumN (n + 1) fun k => ((A (i + 1) k).natAbs : Int)
    have h0 : skp 0 i = i + 1 := by unfold skp; rw [if_neg (by omega)]
    have := sumN_less (f := fun k => ((A (i + 1) k).natAbs : Int)) j n hj (fun _ _ => Int.natCast_nonneg _)
    refine Int.le_trans (Int.le_of_eq (sumN_congr fun k _ => ?_)) this
    show ((A (skp 0 i) (skp j k)).natAbs : Int) = _
    rw [h0]

/-! ### Chinese remainders -/
theorem cop_mul {a b c : Int} (h : a.gcd b = 1) (ha : a ∣ c) (hb : b ∣ c) : a * b ∣ c := by
  rw [← Int.natAbs_dvd_natAbs, Int.natAbs_mul]
  exact Nat.Coprime.mul_dvd_of_dvd_of_dvd h (Int.natAbs_dvd_natAbs.mpr ha) (Int.natAbs_dvd_natAbs.mpr hb)
/-- Moduli above 1 of which none has a divisor in common with the product of those ahead. -/
def Modu (ms : Nat → Int) (k : Nat) : Prop := ∀ i, i < k → 2 ≤ ms i ∧ (prodI ms i).gcd (ms i) = 1
theorem Modu.pos {ms : Nat → Int} {k : Nat} (h : Modu ms k) : 0 < prodI ms k := prodI_pos fun i hi => by have := (h i hi).1; omega
theorem Modu.less {ms : Nat → Int} {k l : Nat} (h : Modu ms k) (hl : l ≤ k) : Modu ms l := fun i hi => h i (by omega)
/-- What has one residue by each modulus has one by the product. -/
theorem Modu.join {ms : Nat → Int} {a b : Int} : ∀ {k : Nat}, Modu ms k → (∀ i, i < k → Cg (ms i) a b) → Cg (prodI ms k) a b
  | 0, _, _ => ⟨a - b, by show a - b = 1 * (a - b); omega⟩
  | k + 1, h, hc => cop_mul (h k (by omega)).2 (Modu.join (h.less (by omega)) fun i hi => hc i (by omega)) (hc k (by omega))
/-- A number with the residues, less than the product. -/
def ChiP (rs ms : Nat → Int) (k : Nat) (x : Int) : Prop := (0 ≤ x ∧ x < prodI ms k) ∧ ∀ i, i < k → Cg (ms i) x (rs i)
theorem ChiP.zero (rs ms : Nat → Int) : ChiP rs ms 0 0 := ⟨⟨Int.le_refl _, by show (0 : Int) < 1; decide⟩, fun i h => by omega⟩
theorem ChiP.uniq {rs ms : Nat → Int} {k : Nat} {x y : Int} (hm : Modu ms k) (h : ChiP rs ms k x) (h' : ChiP rs ms k y) : x = y :=
  Cg.eq h.1 h'.1 (hm.join fun i hi => (h.2 i hi).trans (h'.2 i hi).symm)
/-- The step: t is what the next modulus asks for. -/
def chT (x r p u : Int) : Int := (r - x) % p * (u % p) % p
theorem chT_can {x r p u : Int} (hp : 0 < p) : 0 ≤ chT x r p u ∧ chT x r p u < p := ⟨Int.emod_nonneg _ (by omega), Int.emod_lt_of_pos _ hp⟩
theorem ChiP.step {rs ms : Nat → Int} {k : Nat} {x u : Int} (h : ChiP rs ms k x) (hp : 0 < ms k) (hP : 0 < prodI ms k) (hu : Cg (ms k) (prodI ms k * u) 1) : ChiP rs ms (k + 1) (x + prodI ms k * chT x (rs k) (ms k) u) := by
  have ht := chT_can (x := x) (r := rs k) (u := u) hp
  have e : Cg (ms k) (chT x (rs k) (ms k) u) ((rs k - x) * u) := (Cg.emod _ _).trans ((Cg.emod _ _).mul (Cg.emod _ _))
  generalize chT x (rs k) (ms k) u = t at ht e ⊢
  refine ⟨⟨?_, ?_⟩, fun i hi => ?_⟩
  · have := Int.mul_nonneg (Int.le_of_lt hP) ht.1
    have := h.1.1
    omega
  · show x + prodI ms k * t < prodI ms k * ms k
    have h1 : prodI ms k * (t + 1) ≤ prodI ms k * ms k := Int.mul_le_mul_of_nonneg_left (by omega) (Int.le_of_lt hP)
    rw [Int.mul_add, Int.mul_one] at h1
    have := h.1.2
    omega
  · rcases Nat.lt_or_ge i k with h1 | h1
    · have d : ms i ∣ prodI ms k * t := Int.dvd_trans (prodI_dvd h1) (Int.dvd_mul_right _ _)
      have := (h.2 i h1).add (Cg.zero.mpr d)
      rw [Int.add_zero] at this
      exact this
    · obtain rfl : i = k := by omega
      have e2 : Cg (ms i) (prodI ms i * t) (prodI ms i * ((rs i - x) * u)) := Cg.mul_left _ e
      have e3 : Cg (ms i) (prodI ms i * ((rs i - x) * u)) ((rs i - x) * 1) := by
        have : prodI ms i * ((rs i - x) * u) = (rs i - x) * (prodI ms i * u) := by grind
        rw [this]
        exact Cg.mul_left _ hu
      have e4 := (Cg.refl (ms i) x).add (e2.trans e3)
      refine e4.trans (Cg.of_eq ?_)
      omega
/-- Nothing overflows: the parts of the step. -/
theorem chT_mul {x r p u : Int} (hp : 0 < p) : 0 ≤ (r - x) % p * (u % p) ∧ (r - x) % p * (u % p) ≤ p * p := by
  have h1 : 0 ≤ (r - x) % p := Int.emod_nonneg _ (by omega)
  have h2 : (r - x) % p < p := Int.emod_lt_of_pos _ hp
  have h3 : 0 ≤ u % p := Int.emod_nonneg _ (by omega)
  have h4 : u % p < p := Int.emod_lt_of_pos _ hp
  exact ⟨Int.mul_nonneg h1 h3, Int.mul_le_mul (by omega) (by omega) h3 (by omega)⟩
/-- The inverse that the step takes: of the residue of the product. -/
theorem chi_inv {P p x y g : Int} (h : P % p * x + p * y = g) (hg : g = 1) : Cg p (P * x) 1 := by
  refine (((Cg.emod p P).symm.mul (Cg.refl p x))).trans ⟨-y, ?_⟩
  rw [Int.mul_neg]
  omega
theorem gcd_emod (P p : Int) : (P % p).gcd p = P.gcd p := by rw [Int.emod_def]; exact Int.gcd_sub_mul_left_left ..

/-! ### Symmetric residues -/
def symM (x m : Int) : Int := if m < 2 * (x % m) then x % m - m else x % m
theorem symM_says {x m : Int} (hm : 0 < m) : Cg m (symM x m) x ∧ 2 * symM x m ≤ m ∧ -m < 2 * symM x m := by
  have h1 : 0 ≤ x % m := Int.emod_nonneg _ (by omega)
  have h2 : x % m < m := Int.emod_lt_of_pos _ hm
  have h3 := Cg.emod m x
  unfold symM
  split
  · refine ⟨?_, by omega, by omega⟩
    have := h3.sub (Cg.zero.mpr (Int.dvd_refl m))
    rw [Int.sub_zero] at this
    exact this
  · exact ⟨h3, by omega, by omega⟩
theorem symM_uniq {x m y : Int} (h : Cg m y x) (h1 : 2 * y ≤ m) (h2 : -m < 2 * y) : symM x m = y := by
  have hm : 0 < m := by omega
  obtain ⟨e1, e2, e3⟩ := symM_says (x := x) hm
  have e := h.trans e1.symm
  generalize symM x m = z at e e1 e2 e3 ⊢
  obtain ⟨k, hk⟩ := e
  have h3 : k < 1 := Int.lt_of_mul_lt_mul_left (a := m) (by rw [Int.mul_one]; omega) (by omega)
  have h4 : -1 < k := Int.lt_of_mul_lt_mul_left (a := m) (by rw [Int.mul_neg, Int.mul_one]; omega) (by omega)
  obtain rfl : k = 0 := by omega
  rw [Int.mul_zero] at hk
  omega

/-! ### Images -/
/-- Different primes are moduli. -/
theorem prm_cop {ms : Nat → Int} {p : Int} (hp : Prm p) : ∀ k, (∀ i, i < k → Prm (ms i) ∧ ms i ≠ p) → ¬ p ∣ prodI ms k
  | 0, _, hd => hp.one hd
  | k + 1, h, hd => by
    rcases hp.mul hd with h1 | h1
    · exact prm_cop hp k (fun i hi => h i (by omega)) h1
    · have h2 := h k (by omega)
      have := hp.1
      rcases h2.1.div (by omega) h1 with h3 | h3
      · omega
      · exact h2.2 h3.symm
theorem Modu.primes {ms : Nat → Int} {k : Nat} (hp : ∀ i, i < k → Prm (ms i)) (hd : ∀ i j, i < j → j < k → ms i ≠ ms j) : Modu ms k := fun i hi => by
  refine ⟨(hp i hi).1, ?_⟩
  have := (hp i hi).gcd (prm_cop (hp i hi) i fun j hj => ⟨hp j (by omega), hd j i hj hi⟩)
  omega
/-- The number with the residues of a small one, brought to the middle, is that one. -/
theorem chi_img {ms : Nat → Int} {k : Nat} {x d b : Int} (hm : Modu ms k) (hx : ChiP (fun i => d % ms i) ms k x) (hb : (d.natAbs : Int) ≤ b) (hP : 2 * b < prodI ms k) : symM x (prodI ms k) = d := by
  refine symM_uniq ?_ (by omega) (by omega)
  exact (hm.join fun i hi => (hx.2 i hi).trans (Cg.emod _ _)).symm
end Go.Proofs.Ytpelnfenfeoeeaa
end

section
/-
  Plain mathematics of chapter 13: what divides all minors of one size; diagonals that divide one another. Nothing of a program is used.
-/
namespace Go.Proofs.Ytpelnfenfeoeeaa

/-- d divides all determinants of k rows and k columns, chosen in whatever order. -/
def DivK (d : Int) (k r c : Nat) (M : Mx) : Prop := ∀ ρ σ : Nat → Nat, (∀ a, a < k → ρ a < r) → (∀ b, b < k → σ b < c) → d ∣ det k (fun a b => M (ρ a) (σ b))
theorem det_lin_sum {k i : Nat} (Y : Mx) (hi : i < k) (κ : Nat → Int) (N : Mx) : ∀ r : Nat, det k (stR Y i fun b => sumN r fun x => κ x * N x b) = sumN r fun x => κ x * det k (stR Y i (N x))
  | 0 => by
    have h := det_scale (stR Y i fun _ => 0) 0 hi
    have e : (stR (stR Y i fun _ => 0) i fun q => 0 * stR Y i (fun _ => 0) i q) = stR Y i fun b => sumN 0 fun x => κ x * N x b := by
      funext a b
      unfold stR
      by_cases h1 : a = i
      · rw [if_pos h1, if_pos h1]; exact Int.zero_mul _
      · rw [if_neg h1, if_neg h1, if_neg h1]
    rw [e, Int.zero_mul] at h
    exact h
  | r + 1 => by
    have h := det_lin k Y i (fun b => sumN r fun x => κ x * N x b) (N r) 1 (κ r) hi
    have e : (stR Y i fun b => 1 * (sumN r fun x => κ x * N x b) + κ r * N r b) = stR Y i fun b => sumN (r + 1) fun x => κ x * N x b := by
      funext a b
      unfold stR
      by_cases h1 : a = i
      · rw [if_pos h1, if_pos h1]
        show 1 * (sumN r fun x => κ x * N x b) + κ r * N r b = (sumN r fun x => κ x * N x b) + κ r * N r b
        rw [Int.one_mul]
      · rw [if_neg h1, if_neg h1]
    rw [e, Int.one_mul, det_lin_sum Y hi κ N r] at h
    exact h
theorem dvd_sumN {d : Int} {f : Nat → Int} : ∀ {n : Nat}, (∀ i, i < n → d ∣ f i) → d ∣ sumN n f
  | 0, _ => ⟨0, by rw [Int.mul_zero]; rfl⟩
  | n + 1, h => Int.dvd_add (dvd_sumN fun i hi => h i (by omega)) (h n (by omega))
/-- Rows out of a lattice: what divides the minors there divides theirs. -/
theorem DivK.rows {d : Int} {k r s c : Nat} {A M : Mx} (h : DivK d k r c M) (hs : SubL s r c A M) : DivK d k s c A := fun ρ σ hρ hσ => by
  have key : ∀ n, n ≤ k → ∀ τ : Nat → Nat, (∀ a, a < k → τ a < r) → d ∣ det k (fun a b => if a < n then A (ρ a) (σ b) else M (τ a) (σ b)) := by
    intro n
    induction n with
    | zero =>
      intro _ τ hτ
      exact h τ σ hτ hσ
    | succ n ih =>
      intro hn τ hτ
      obtain ⟨κ, hκ⟩ := hs (ρ n) (hρ n (by omega))
      have e : EqX k (fun a b => if a < n + 1 then A (ρ a) (σ b) else M (τ a) (σ b)) (stR (fun a b => if a < n then A (ρ a) (σ b) else M (τ a) (σ b)) n fun b => sumN r fun x => κ x * M x (σ b)) := fun a b ha hb => by
        unfold stR
        by_cases h1 : a = n
        · rw [if_pos h1, h1]
          show (if n < n + 1 then A (ρ n) (σ b) else _) = _
          rw [if_pos (by omega), hκ (σ b) (hσ b hb)]
        · rw [if_neg h1]
          by_cases h2 : a < n
          · show (if a < n + 1 then _ else _) = (if a < n then _ else _)
            rw [if_pos (by omega), if_pos h2]
          · show (if a < n + 1 then _ else _) = (if a < n then _ else _)
            rw [if_neg (by omega), if_neg h2]
      rw [det_congr e, det_lin_sum _ (by omega) κ (fun x b => M x (σ b)) r]
      refine dvd_sumN fun x hx => Int.dvd_trans ?_ (Int.dvd_mul_left _ _)
      have e2 : EqX k (stR (fun a b => if a < n then A (ρ a) (σ b) else M (τ a) (σ b)) n fun b => M x (σ b)) (fun a b => if a < n then A (ρ a) (σ b) else M ((fun a => if a = n then x else τ a) a) (σ b)) := fun a b ha hb => by
        unfold stR
        by_cases h1 : a = n
        · rw [if_pos h1]
          show _ = (if a < n then _ else M (if a = n then x else τ a) (σ b))
          rw [if_neg (by omega), if_pos h1]
        · rw [if_neg h1]
          show _ = (if a < n then _ else M (if a = n then x else τ a) (σ b))
          rw [if_neg h1]
      rw [det_congr e2]
      refine ih (by omega) _ fun a ha => ?_
      show (if a = n then x else τ a) < r
      split
      · exact hx
      · exact hτ a ha
  rcases Nat.eq_zero_or_pos r with hr | hr
  · -- no rows: those of A are zeros, or k is 0
    subst hr
    rcases k with _ | k
    · exact h ρ σ (fun a ha => by omega) hσ
    · obtain ⟨κ, hκ⟩ := hs (ρ 0) (hρ 0 (by omega))
      have e := det_row k (fun a b => A (ρ a) (σ b))
      rw [e]
      refine dvd_sumN fun j hj => ?_
      have : A (ρ 0) (σ j) = 0 := hκ (σ j) (hσ j hj)
      show d ∣ sg j * A (ρ 0) (σ j) * _
      rw [this, Int.mul_zero, Int.zero_mul]
      exact ⟨0, by rw [Int.mul_zero]⟩
  · have := key k (Nat.le_refl _) (fun _ => 0) (fun _ _ => hr)
    rwa [det_congr (B := fun a b => A (ρ a) (σ b)) (fun a b ha hb => if_pos ha)] at this
theorem DivK.tr {d : Int} {k r c : Nat} {M : Mx} (h : DivK d k r c M) : DivK d k c r (trX M) := fun ρ σ hρ hσ => by
  have := h σ ρ hσ hρ
  rw [← det_tr] at this
  exact this
theorem DivK.congr {d : Int} {k r c : Nat} {M N : Mx} (h : DivK d k r c M) (e : ∀ i j, i < r → j < c → M i j = N i j) : DivK d k r c N := fun ρ σ hρ hσ => by
  rw [← det_congr (A := fun a b => M (ρ a) (σ b)) (fun a b ha hb => e _ _ (hρ a ha) (hσ b hb))]
  exact h ρ σ hρ hσ
theorem DivK.cols {d : Int} {k r c s : Nat} {A M : Mx} (h : DivK d k r c M) (hs : SubL s c r (trX A) (trX M)) : DivK d k r s A := (h.tr.rows hs).tr

/-! ### Diagonals -/
theorem det_rows (g : Nat → Int) (X : Mx) (k : Nat) : ∀ n, n ≤ k → det k (fun a b => if a < n then g a * X a b else X a b) = prodI g n * det k X
  | 0, _ => by
    show det k X = 1 * det k X
    rw [Int.one_mul]
  | n + 1, hn => by
    have h := det_scale (fun a b => if a < n then g a * X a b else X a b) (g n) (show n < k by omega)
    have e : EqX k (stR (fun a b => if a < n then g a * X a b else X a b) n fun q => g n * (if n < n then g n * X n q else X n q)) (fun a b => if a < n + 1 then g a * X a b else X a b) := fun a b ha hb => by
      unfold stR
      by_cases h1 : a = n
      · rw [if_pos h1]
        show g n * (if n < n then g n * X n b else X n b) = if a < n + 1 then g a * X a b else X a b
        rw [if_neg (Nat.lt_irrefl n), if_pos (by omega), h1]
      · rw [if_neg h1]
        by_cases h2 : a < n
        · show (if a < n then _ else _) = if a < n + 1 then _ else _
          rw [if_pos h2, if_pos (by omega)]
        · show (if a < n then _ else _) = if a < n + 1 then _ else _
          rw [if_neg h2, if_neg (by omega)]
    rw [det_congr e, det_rows g X k n (by omega)] at h
    rw [h]
    show g n * (prodI g n * det k X) = prodI g n * g n * det k X
    rw [← Int.mul_assoc, Int.mul_comm (g n)]
theorem prodI_put (f : Nat → Int) (a : Nat) : ∀ k, a < k → ∃ R : Int, ∀ z, prodI (fun b => if b = a then z else f b) k = z * R
  | 0, h => by omega
  | k + 1, h => by
    by_cases e : a = k
    · subst e
      refine ⟨prodI f a, fun z => ?_⟩
      show prodI _ a * (if a = a then z else f a) = _
      rw [if_pos rfl, prodI_congr (f := fun b => if b = a then z else f b) (g := f) (fun i hi => if_neg (by omega)), Int.mul_comm]
    · obtain ⟨R, h6⟩ := prodI_put f a k (by omega)
      refine ⟨R * f k, fun z => ?_⟩
      show prodI _ k * (if k = a then z else f k) = _
      rw [if_neg (Ne.symm e), h6, Int.mul_assoc]
/-- One factor taken out of a product, the last one put in its place. -/
theorem prodI_take (f : Nat → Int) (k a : Nat) (h : a ≤ k) : prodI f (k + 1) = f a * prodI (fun b => if b = a then f k else f b) k := by
  show prodI f k * f k = _
  by_cases e : a = k
  · subst e
    rw [prodI_congr (f := fun b => if b = a then f a else f b) (g := f) (fun i hi => if_neg (by omega)), Int.mul_comm]
  · obtain ⟨R, hR⟩ := prodI_put f a k (by omega)
    have e1 : prodI f k = f a * R := by
      rw [← hR (f a)]
      refine prodI_congr fun i _ => ?_
      show f i = if i = a then f a else f i
      split
      · rename_i h1; rw [h1]
      · rfl
    rw [hR (f k), e1, Int.mul_assoc, Int.mul_comm R]
def InjK (k : Nat) (ρ : Nat → Nat) : Prop := ∀ a b, a < k → b < k → ρ a = ρ b → a = b
theorem InjK.take {k : Nat} {ρ : Nat → Nat} (h : InjK (k + 1) ρ) {a : Nat} (_ : a ≤ k) : InjK k (fun b => if b = a then ρ k else ρ b) := fun x y hx hy e => by
  have e : (if x = a then ρ k else ρ x) = (if y = a then ρ k else ρ y) := e
  by_cases h1 : x = a
  · by_cases h2 : y = a
    · omega
    · rw [if_pos h1, if_neg h2] at e
      have := h k y (by omega) (by omega) e; omega
  · by_cases h2 : y = a
    · rw [if_neg h1, if_pos h2] at e
      have := h x k (by omega) (by omega) e; omega
    · rw [if_neg h1, if_neg h2] at e
      exact h x y (by omega) (by omega) e
theorem InjK.le : ∀ (n k : Nat) (ρ : Nat → Nat), InjK k ρ → (∀ a, a < k → ρ a < n) → k ≤ n
  | 0, k, ρ, _, hl => by
    rcases k with _ | k
    · exact Nat.le_refl _
    · have := hl 0 (by omega); omega
  | n + 1, k, ρ, hi, hl => by
    by_cases h : ∃ a, a < k ∧ ρ a = n
    · obtain ⟨a, ha, e⟩ := h
      obtain ⟨k, rfl⟩ : ∃ m, k = m + 1 := ⟨k - 1, by omega⟩
      have := InjK.le n k _ (hi.take (a := a) (by omega)) fun b hb => by
        show (if b = a then ρ k else ρ b) < n
        have h0 : ∀ x, x < k + 1 → x ≠ a → ρ x < n := fun x hx hne => by
          have h1 := hl x hx
          have h2 : ρ x ≠ n := fun e2 => hne (hi x a hx ha (by omega))
          omega
        by_cases h1 : b = a
        · rw [if_pos h1]; exact h0 k (by omega) (by omega)
        · rw [if_neg h1]; exact h0 b (by omega) h1
      omega
    · have := InjK.le n k ρ hi fun a ha => by
        have h1 := hl a ha
        have h2 : ρ a ≠ n := fun e => h ⟨a, ha, e⟩
        omega
      omega
/-- A product of k of them is a multiple of the product of the first k. -/
theorem chain_dvd {f : Nat → Int} {r : Nat} (hf : ∀ i j, i ≤ j → j < r → f i ∣ f j) : ∀ (k : Nat) (ρ : Nat → Nat), InjK k ρ → (∀ a, a < k → ρ a < r) → prodI f k ∣ prodI (fun a => f (ρ a)) k
  | 0, _, _, _ => Int.dvd_refl _
  | k + 1, ρ, hi, hl => by
    obtain ⟨a, ha, hk⟩ : ∃ a, a < k + 1 ∧ k ≤ ρ a := Classical.byContradiction fun hn => by
      have := InjK.le k (k + 1) ρ hi fun a ha => by
        refine Classical.byContradiction fun h2 => hn ⟨a, ha, by omega⟩
      omega
    rw [prodI_take (fun a => f (ρ a)) k a (by omega), Int.mul_comm]
    have e : prodI (fun b => if b = a then f (ρ k) else f (ρ b)) k = prodI (fun b => f ((fun b => if b = a then ρ k else ρ b) b)) k := prodI_congr fun i _ => by
      show _ = f (if i = a then ρ k else ρ i)
      split <;> rfl
    rw [e]
    have ih := chain_dvd hf k _ (hi.take (a := a) (by omega)) fun b hb => by
      show (if b = a then ρ k else ρ b) < r
      split
      · exact hl k (by omega)
      · exact hl b (by omega)
    exact Int.mul_dvd_mul ih (hf k (ρ a) hk (hl a ha))
/-- A Smith form: a diagonal, not below 0, each number of which divides the next one. -/
structure SmP (r c : Nat) (D : Mx) (f : Nat → Int) : Prop where
  dia : ∀ i j, i < r → j < c → D i j = if i = j then f i else 0
  out : ∀ i, r ≤ i ∨ c ≤ i → f i = 0
  nn : ∀ i, 0 ≤ f i
  dvd : ∀ i j, i ≤ j → f i ∣ f j
theorem SmP.div {r c k : Nat} {D : Mx} {f : Nat → Int} (h : SmP r c D f) : DivK (prodI f k) k r c D := fun ρ σ hρ hσ => by
  by_cases hi : InjK k ρ
  · have e : EqX k (fun a b => D (ρ a) (σ b)) (fun a b => if a < k then f (ρ a) * (if ρ a = σ b then 1 else 0) else (if ρ a = σ b then 1 else 0)) := fun a b ha hb => by
      show D (ρ a) (σ b) = if a < k then _ else _
      rw [if_pos ha, h.dia _ _ (hρ a ha) (hσ b hb)]
      split
      · rw [Int.mul_one]
      · rw [Int.mul_zero]
    rw [det_congr e, det_rows (fun a => f (ρ a)) (fun a b => if ρ a = σ b then 1 else 0) k k (Nat.le_refl _)]
    exact Int.dvd_trans (chain_dvd (r := r) (fun i j hij _ => h.dvd i j hij) k ρ hi hρ) (Int.dvd_mul_right _ _)
  · have hx : ∃ a b, a < b ∧ b < k ∧ ρ a = ρ b := Classical.byContradiction fun hn => hi fun a b ha hb e => by
      rcases Nat.lt_trichotomy a b with h1 | h1 | h1
      · exact absurd ⟨a, b, h1, hb, e⟩ hn
      · exact h1
      · exact absurd ⟨b, a, h1, ha, e.symm⟩ hn
    obtain ⟨a, b, hab, hb, e⟩ := hx
    rw [det_alt k a b hab hb (fun a b => D (ρ a) (σ b)) fun x _ => by show D (ρ a) (σ x) = D (ρ b) (σ x); rw [e]]
    exact ⟨0, by rw [Int.mul_zero]⟩
theorem SmP.of_div {r c k : Nat} {D : Mx} {f : Nat → Int} (h : SmP r c D f) (hr : k ≤ r) (hc : k ≤ c) {d : Int} (hd : DivK d k r c D) : d ∣ prodI f k := by
  have h1 := hd (fun a => a) (fun b => b) (fun a ha => by omega) (fun b hb => by omega)
  have e : EqX k (fun a b => D a b) (fun a b => if a < k then f a * idX a b else idX a b) := fun a b ha hb => by
    show D a b = if a < k then _ else _
    rw [if_pos ha, h.dia a b (by omega) (by omega)]
    unfold idX
    split
    · rw [Int.mul_one]
    · rw [Int.mul_zero]
  rw [det_congr e, det_rows f idX k k (Nat.le_refl _), det_id, Int.mul_one] at h1
  exact h1
/-- The products of the first numbers are those of any other Smith form with the same minors' divisors. -/
theorem SmP.uniq {r c : Nat} {D D' : Mx} {f g : Nat → Int} (h : SmP r c D f) (h' : SmP r c D' g) (e : ∀ d k, DivK d k r c D ↔ DivK d k r c D') : ∀ i, f i = g i := by
  have hp : ∀ k, k ≤ r → k ≤ c → prodI f k = prodI g k := fun k hr hc => by
    have n1 : 0 ≤ prodI f k := prodI_nonneg fun i _ => h.nn i
    have n2 : 0 ≤ prodI g k := prodI_nonneg fun i _ => h'.nn i
    have d1 : prodI f k ∣ prodI g k := h'.of_div hr hc ((e _ k).mp h.div)
    have d2 : prodI g k ∣ prodI f k := h.of_div hr hc ((e _ k).mpr h'.div)
    exact Int.dvd_antisymm n1 n2 d1 d2
  intro i
  by_cases hi : i < r ∧ i < c
  · have e1 := hp i (by omega) (by omega)
    have e2 := hp (i + 1) (by omega) (by omega)
    have e2 : prodI f i * f i = prodI g i * g i := e2
    by_cases hz : prodI f i = 0
    · have zero : ∀ {u : Nat → Int}, (∀ a b, a ≤ b → u a ∣ u b) → ∀ n, prodI u n = 0 → ∀ m, n ≤ m + 1 → n ≠ 0 → u m = 0 := by
        intro u hu n
        induction n with
        | zero => intro _ m _ h0; exact absurd rfl h0
        | succ n ih =>
          intro hn m hm _
          have hn : prodI u n * u n = 0 := hn
          rcases Int.mul_eq_zero.mp hn with h1 | h1
          · rcases n with _ | n
            · exact absurd h1 (by show ¬ ((1 : Int) = 0); decide)
            · exact ih h1 m (by omega) (by omega)
          · obtain ⟨x, hx⟩ := hu n m (by omega)
            rw [hx, h1, Int.zero_mul]
      have i0 : i ≠ 0 := fun e0 => by subst e0; exact absurd hz (by show ¬ ((1 : Int) = 0); decide)
      rw [zero h.dvd i hz i (by omega) i0, zero h'.dvd i (by rw [← e1]; exact hz) i (by omega) i0]
    · rw [← e1] at e2
      exact Int.eq_of_mul_eq_mul_left hz e2
  · rw [h.out i (by omega), h'.out i (by omega)]
end Go.Proofs.Ytpelnfenfeoeeaa
end

section
/-
  Plain mathematics of chapter 13: minors with ascending choices are enough. Nothing of a program is used.
-/
namespace Go.Proofs.Ytpelnfenfeoeeaa

theorem sumN_pair {f g : Nat → Int} {a : Nat} : ∀ {k : Nat}, a + 1 < k → (∀ i, i < k → i ≠ a → i ≠ a + 1 → g i = f i) → sumN k g - g a - g (a + 1) = sumN k f - f a - f (a + 1)
  | 0, h, _ => by omega
  | k + 1, h, e => by
    rcases Nat.lt_or_ge (a + 1) k with h1 | h1
    · have ih := sumN_pair h1 fun i hi => e i (by omega)
      have ek := e k (by omega) (by omega) (by omega)
      show sumN k g + g k - g a - g (a + 1) = sumN k f + f k - f a - f (a + 1)
      omega
    · obtain rfl : k = a + 1 := by omega
      have e0 : sumN a g = sumN a f := sumN_congr fun i hi => e i (by omega) (by omega) (by omega)
      show sumN a g + g a + g (a + 1) - g a - g (a + 1) = sumN a f + f a + f (a + 1) - f a - f (a + 1)
      omega
/-- How far a choice is from ascending. -/
def sgW (k : Nat) (ρ : Nat → Nat) : Int := sumN k fun a => ((k : Int) - (a : Int)) * (ρ a : Int)
theorem sgW_nonneg (k : Nat) (ρ : Nat → Nat) : 0 ≤ sgW k ρ := by
  have : ∀ n, n ≤ k → 0 ≤ sumN n fun a => ((k : Int) - (a : Int)) * (ρ a : Int) := by
    intro n
    induction n with
    | zero => intro _; exact Int.le_refl _
    | succ n ih =>
      intro hn
      exact Int.add_nonneg (ih (by omega)) (Int.mul_nonneg (by omega) (Int.natCast_nonneg _))
  exact this k (Nat.le_refl _)
def swN (ρ : Nat → Nat) (a : Nat) : Nat → Nat := fun b => if b = a then ρ (a + 1) else if b = a + 1 then ρ a else ρ b
theorem sgW_swap {k a : Nat} {ρ : Nat → Nat} (ha : a + 1 < k) (h : ρ (a + 1) < ρ a) : sgW k (swN ρ a) < sgW k ρ := by
  have e := sumN_pair (f := fun b => ((k : Int) - (b : Int)) * (ρ b : Int)) (g := fun b => ((k : Int) - (b : Int)) * (swN ρ a b : Int)) ha fun i _ h1 h2 => by
    show _ * ((if i = a then ρ (a + 1) else if i = a + 1 then ρ a else ρ i : Nat) : Int) = _
    rw [if_neg h1, if_neg h2]
  have e1 : swN ρ a a = ρ (a + 1) := if_pos rfl
  have e2 : swN ρ a (a + 1) = ρ a := by unfold swN; rw [if_neg (by omega), if_pos rfl]
  rw [e1, e2] at e
  change sgW k (swN ρ a) - _ - _ = sgW k ρ - _ - _ at e
  have ec : ((a + 1 : Nat) : Int) = (a : Int) + 1 := by omega
  rw [ec] at e
  have hx : ((ρ (a + 1) : Nat) : Int) < (ρ a : Int) := by omega
  generalize ((ρ (a + 1) : Nat) : Int) = y at e hx
  generalize ((ρ a : Nat) : Int) = x at e hx
  have e3 : ((k : Int) - ((a : Int) + 1)) * x = ((k : Int) - (a : Int)) * x - x := by grind
  have e4 : ((k : Int) - ((a : Int) + 1)) * y = ((k : Int) - (a : Int)) * y - y := by grind
  rw [e3, e4] at e
  omega
def AscK (k : Nat) (ρ : Nat → Nat) : Prop := ∀ a, a + 1 < k → ρ a < ρ (a + 1)
/-- Rows in any order, when it is known for ascending ones. -/
theorem asc_rows {d : Int} {k : Nat} {N : Nat → Nat → Int} {r : Nat} (h : ∀ ρ : Nat → Nat, AscK k ρ → (∀ a, a < k → ρ a < r) → d ∣ det k (fun a b => N (ρ a) b)) : ∀ (m : Nat) (ρ : Nat → Nat), sgW k ρ < (m : Int) → (∀ a, a < k → ρ a < r) → d ∣ det k (fun a b => N (ρ a) b)
  | 0, ρ, hm, _ => by have := sgW_nonneg k ρ; omega
  | m + 1, ρ, hm, hl => by
    by_cases h1 : AscK k ρ
    · exact h ρ h1 hl
    · obtain ⟨a, ha, hn⟩ : ∃ a, a + 1 < k ∧ ¬ ρ a < ρ (a + 1) := Classical.byContradiction fun hx => h1 fun a ha => Classical.byContradiction fun hy => hx ⟨a, ha, hy⟩
      by_cases he : ρ a = ρ (a + 1)
      · rw [det_alt k a (a + 1) (by omega) ha (fun a b => N (ρ a) b) fun b _ => by show N (ρ a) b = N (ρ (a + 1)) b; rw [he]]
        exact ⟨0, by rw [Int.mul_zero]⟩
      · have ih := asc_rows h m (swN ρ a) (by have := sgW_swap ha (by omega : ρ (a + 1) < ρ a); omega) fun b hb => by
          unfold swN
          split
          · exact hl _ ha
          · split
            · exact hl _ (by omega)
            · exact hl b hb
        have e : (fun x b => N (swN ρ a x) b) = swR (fun x b => N (ρ x) b) a (a + 1) := by
          funext x b
          unfold swN swR
          split
          · rfl
          · split <;> rfl
        rw [e, det_swap _ (by omega) ha (by omega)] at ih
        exact Int.dvd_neg.mp ih
/-- What divides the minors with ascending choices divides all. -/
theorem DivK.of_asc {d : Int} {k r c : Nat} {M : Mx} (h : ∀ ρ σ : Nat → Nat, AscK k ρ → AscK k σ → (∀ a, a < k → ρ a < r) → (∀ b, b < k → σ b < c) → d ∣ det k (fun a b => M (ρ a) (σ b))) : DivK d k r c M := fun ρ σ hρ hσ => by
  have step : ∀ σ : Nat → Nat, AscK k σ → (∀ b, b < k → σ b < c) → d ∣ det k (fun a b => M (ρ a) (σ b)) := fun σ h1 h2 =>
    asc_rows (N := fun x b => M x (σ b)) (r := r) (fun τ a1 a2 => h τ σ a1 h1 a2 h2) ((sgW k ρ).toNat + 1) ρ (by have := sgW_nonneg k ρ; omega) hρ
  rw [← det_tr]
  refine asc_rows (N := fun y a => M (ρ a) y) (r := c) (fun τ a1 a2 => ?_) ((sgW k σ).toNat + 1) σ (by have := sgW_nonneg k σ; omega) hσ
  have := step τ a1 a2
  rw [← det_tr] at this
  exact this
/-- The greatest common divisor of the minors of a Smith form, and of all that has its minors' divisors, is the product of the first numbers. -/
theorem SmP.gcd {r c k : Nat} {D M : Mx} {f : Nat → Int} (h : SmP r c D f) (hr : k ≤ r) (hc : k ≤ c) (e : ∀ d, DivK d k r c M ↔ DivK d k r c D) {g : Int} (hg0 : 0 ≤ g) (hg : DivK g k r c M) (hb : ∀ d, DivK d k r c M → d ∣ g) : g = prodI f k :=
  Int.dvd_antisymm hg0 (prodI_nonneg fun i _ => h.nn i) (h.of_div hr hc ((e g).mp hg)) (hb _ ((e _).mpr h.div))
/-- Two accounts: rows and columns. -/
theorem DivK.both {r c : Nat} {U V M D : Mx} (hu : det r U = 1 ∨ det r U = -1) (hv : det c V = 1 ∨ det c V = -1) (h : ∀ i j, i < r → j < c → (sumN c fun b => mulX r U M i b * V b j) = D i j) (d : Int) (k : Nat) : DivK d k r c M ↔ DivK d k r c D := by
  have vt : det c (trX V) = 1 ∨ det c (trX V) = -1 := by rw [det_tr]; exact hv
  have e : ∀ j i, j < c → i < r → mulX c (trX V) (trX (mulX r U M)) j i = trX D j i := fun j i hj hi => by
    show (sumN c fun b => V b j * mulX r U M i b) = D i j
    rw [← h i j hi hj]
    exact sumN_congr fun b _ => Int.mul_comm _ _
  have c1 : SubL c c r (trX D) (trX (mulX r U M)) := (SubL.congr fun j i hj hi => (e j i hj hi).symm).trans (SubL.mul c r (trX V) (trX (mulX r U M)))
  have c2 : SubL c c r (trX (mulX r U M)) (trX D) := (SubL.unmul vt).trans (SubL.congr e)
  constructor
  · intro hd
    exact (hd.rows (SubL.mul r c U M)).cols c1
  · intro hd
    exact (DivK.cols hd c2).rows (SubL.unmul hu)
end Go.Proofs.Ytpelnfenfeoeeaa
end

section
/-
  Plain mathematics of chapter 13: operations on columns, on lists, with marks; the two accounts; the state of the work towards a Smith form. Nothing of a program is used.
-/
namespace Go.Proofs.Ytpelnfenfeoeeaa

/-! ### Operations on columns (0: swap, else: add) -/
def colAt (k : Int) (I J : Nat) (z : Int) (C : Nat) (xs : List Int) (p : Nat) : Int :=
  if k = 0 then (if p % C = I then xs.getD (p / C * C + J) 0 else if p % C = J then xs.getD (p / C * C + I) 0 else xs.getD p 0)
  else (if p % C = I then addB (xs.getD p 0) (mulB (xs.getD (p / C * C + J) 0) z) else xs.getD p 0)
def colL (k : Int) (I J : Nat) (z : Int) (C : Nat) (xs : List Int) : List Int := (List.range xs.length).map (colAt k I J z C xs)
theorem colL_length (k : Int) (I J : Nat) (z : Int) (C : Nat) (xs : List Int) : (colL k I J z C xs).length = xs.length := by simp [colL]
theorem colL_getD {k : Int} {I J : Nat} {z : Int} {C : Nat} {xs : List Int} {p : Nat} (hp : p < xs.length) : (colL k I J z C xs).getD p 0 = colAt k I J z C xs p := by
  unfold colL
  simp only [List.getD, List.getElem?_map, List.getElem?_range hp, Option.map_some, Option.getD_some]
/-- The rows ahead of row i are done. -/
def clTo (k : Int) (I J : Nat) (z : Int) (C : Nat) (xs : List Int) (i : Nat) : List Int := (List.range xs.length).map fun p => if p / C < i then colAt k I J z C xs p else xs.getD p 0
theorem clTo_length (k : Int) (I J : Nat) (z : Int) (C : Nat) (xs : List Int) (i : Nat) : (clTo k I J z C xs i).length = xs.length := by simp [clTo]
theorem clTo_getD {k : Int} {I J : Nat} {z : Int} {C : Nat} {xs : List Int} {i p : Nat} (hp : p < xs.length) : (clTo k I J z C xs i).getD p 0 = if p / C < i then colAt k I J z C xs p else xs.getD p 0 := by
  unfold clTo
  simp only [List.getD, List.getElem?_map, List.getElem?_range hp, Option.map_some, Option.getD_some]
theorem clTo_zero (k : Int) (I J : Nat) (z : Int) (C : Nat) (xs : List Int) : clTo k I J z C xs 0 = xs := by
  refine list_getD (clTo_length _ _ _ _ _ _ _) fun p hp => ?_
  rw [clTo_length] at hp
  rw [clTo_getD hp, if_neg (Nat.not_lt_zero _)]
theorem clTo_all {k : Int} {I J : Nat} {z : Int} {R C : Nat} {xs : List Int} (hl : xs.length = R * C) : clTo k I J z C xs R = colL k I J z C xs := by
  refine list_getD (by rw [clTo_length, colL_length]) fun p hp => ?_
  rw [clTo_length] at hp
  rw [clTo_getD hp, colL_getD hp, if_pos]
  rw [hl] at hp
  exact Nat.div_lt_of_lt_mul (by rw [Nat.mul_comm]; exact hp)
theorem MkOr.col {k : Int} {I J : Nat} {z : Int} {C : Nat} {xs : List Int} (h : MkOr xs) : MkOr (colL k I J z C xs) := fun p => by
  rcases Nat.lt_or_ge p xs.length with hp | hp
  · rw [colL_getD hp]
    unfold colAt
    split
    · split
      · exact h _
      · split
        · exact h _
        · exact h _
    · split
      · exact addB_or _ _
      · exact h _
  · rw [getD_out (by rw [colL_length]; exact hp)]
    exact .inr (by decide)
theorem nums_backC {k : Int} {I J : Nat} {z : Int} {R C : Nat} {xs : List Int} (h : MkOr xs) (hl : xs.length = R * C) (hI : I < C) (hJ : J < C) (hn : nums (colL k I J z C xs) = true) : nums xs = true := by
  have at_ : ∀ p, p < xs.length → NumP (colAt k I J z C xs p) := fun p hp => by
    have := nums_at hn (j := p) (by rw [colL_length]; exact hp)
    rwa [colL_getD hp] at this
  refine nums_true fun p hp => ?_
  have hC : 0 < C := by omega
  have hm : p % C < C := Nat.mod_lt p hC
  have ep : p / C * C + p % C = p := Nat.div_add_mod' p C
  have hr : p / C < R := Nat.div_lt_of_lt_mul (by rw [Nat.mul_comm, ← hl]; exact hp)
  have h1 := at_ p hp
  unfold colAt at h1
  by_cases k0 : k = 0
  · rw [if_pos k0] at h1
    by_cases e1 : p % C = I
    · have hq : p / C * C + J < xs.length := by rw [hl]; exact idx_lt hr hJ
      have h2 := at_ _ hq
      unfold colAt at h2
      rw [if_pos k0, idx_div hJ, idx_mod hJ] at h2
      by_cases e2 : J = I
      · rw [if_pos e2, e2, ← e1, ep] at h2; exact h2
      · rw [if_neg e2, if_pos rfl, ← e1, ep] at h2; exact h2
    · by_cases e2 : p % C = J
      · have hq : p / C * C + I < xs.length := by rw [hl]; exact idx_lt hr hI
        have h2 := at_ _ hq
        unfold colAt at h2
        rw [if_pos k0, idx_div hI, idx_mod hI, if_pos rfl, ← e2, ep] at h2
        exact h2
      · rw [if_neg e1, if_neg e2] at h1; exact h1
  · rw [if_neg k0] at h1
    split at h1
    · exact (h p).resolve_left (addB_keeps h1)
    · exact h1
/-- Without marks it is the operation on the rows of the matrix turned over. -/
theorem colL_mx {k : Int} {I J : Nat} {z : Int} {R C : Nat} {xs : List Int} (hk : k = 0 ∨ k = 2) (hl : xs.length = R * C) (hx : nums xs = true) (hz : NumP z) (hn : nums (colL k I J z C xs) = true) : ∀ i j, i < R → j < C → mxC C (colL k I J z C xs) i j = opX k I J z (trX (mxC C xs)) j i := fun i j hi hj => by
  have hp : i * C + j < xs.length := by rw [hl]; exact idx_lt hi hj
  have h1 := nums_at hn (j := i * C + j) (by rw [colL_length]; exact hp)
  show (colL k I J z C xs).getD (i * C + j) 0 = _
  rw [colL_getD hp] at h1 ⊢
  unfold colAt at h1 ⊢
  unfold opX
  rw [idx_div hj, idx_mod hj] at h1 ⊢
  rcases hk with rfl | rfl
  · rw [if_pos rfl, if_pos rfl]; rfl
  · have e0 : ¬ (2 : Int) = 0 := by decide
    have e1 : ¬ (2 : Int) = 1 := by decide
    rw [if_neg e0] at h1
    rw [if_neg e0, if_neg e0, if_neg e1]
    by_cases e : j = I
    · rw [if_pos e] at h1
      rw [if_pos e, if_pos e]
      have a := nums_def hx (i * C + j)
      have b := nums_def hx (i * C + J)
      rw [mulB_num b hz] at h1 ⊢
      by_cases hb : NumP (xs.getD (i * C + J) 0 * z)
      · rw [fitB_num hb] at h1 ⊢
        rw [addB_num a hb] at h1 ⊢
        by_cases hs : NumP (xs.getD (i * C + j) 0 + xs.getD (i * C + J) 0 * z)
        · rw [fitB_num hs]; rfl
        · rw [fitB_bad hs] at h1; exact absurd h1 bad_not
      · rw [fitB_bad hb, addB_bad] at h1; exact absurd h1 bad_not
    · rw [if_neg e, if_neg e]; rfl

/-! ### The state: the cells and the two accounts' cells -/
abbrev SSt := List Int × List Int × List Int
def row3 (R C : Nat) (k : Int) (I J : Nat) (z : Int) (s : SSt) : SSt := (opL k I J z C s.1, opL k I J z R s.2.1, s.2.2)
def col3 (C : Nat) (k : Int) (I J : Nat) (z : Int) (s : SSt) : SSt := (colL k I J z C s.1, s.2.1, colL k I J z C s.2.2)
def ok3 (s : SSt) : Bool := nums s.1 && nums s.2.1 && nums s.2.2
def cel3S (C : Nat) (s : SSt) (i j : Nat) : Int := mxC C s.1 i j
structure Siz3 (R C : Nat) (s : SSt) : Prop where
  l1 : s.1.length = R * C
  l2 : s.2.1.length = R * R
  l3 : s.2.2.length = C * C
  m1 : MkOr s.1
  m2 : MkOr s.2.1
  m3 : MkOr s.2.2
theorem Siz3.row {R C : Nat} {s : SSt} (h : Siz3 R C s) (k : Int) (I J : Nat) (z : Int) : Siz3 R C (row3 R C k I J z s) :=
  ⟨by show (opL k I J z C s.1).length = _; rw [opL_length]; exact h.l1, by show (opL k I J z R s.2.1).length = _; rw [opL_length]; exact h.l2, h.l3, h.m1.op, h.m2.op, h.m3⟩
theorem Siz3.col {R C : Nat} {s : SSt} (h : Siz3 R C s) (k : Int) (I J : Nat) (z : Int) : Siz3 R C (col3 C k I J z s) :=
  ⟨by show (colL k I J z C s.1).length = _; rw [colL_length]; exact h.l1, h.l2, by show (colL k I J z C s.2.2).length = _; rw [colL_length]; exact h.l3, h.m1.col, h.m2, h.m3.col⟩
theorem ok3_and {s : SSt} (h : ok3 s = true) : nums s.1 = true ∧ nums s.2.1 = true ∧ nums s.2.2 = true := by
  unfold ok3 at h
  rw [Bool.and_eq_true, Bool.and_eq_true] at h
  exact ⟨h.1.1, h.1.2, h.2⟩
theorem ok3_of {s : SSt} (h1 : nums s.1 = true) (h2 : nums s.2.1 = true) (h3 : nums s.2.2 = true) : ok3 s = true := by unfold ok3; rw [h1, h2, h3]; rfl
theorem ok3_row {R C : Nat} {s : SSt} (h : Siz3 R C s) {k : Int} {I J : Nat} {z : Int} (hI : I < R) (hJ : J < R) (ho : ok3 (row3 R C k I J z s) = true) : ok3 s = true := by
  obtain ⟨a, b, c⟩ := ok3_and ho
  exact ok3_of (nums_back h.m1 h.l1 hI hJ a) (nums_back h.m2 h.l2 hI hJ b) c
theorem ok3_col {R C : Nat} {s : SSt} (h : Siz3 R C s) {k : Int} {I J : Nat} {z : Int} (hI : I < C) (hJ : J < C) (ho : ok3 (col3 C k I J z s) = true) : ok3 s = true := by
  obtain ⟨a, b, c⟩ := ok3_and ho
  exact ok3_of (nums_backC h.m1 h.l1 hI hJ a) b (nums_backC h.m3 h.l3 hI hJ c)
/-- The accounts: what is left is U times M times V. -/
structure Acc3 (r c : Nat) (U V M A : Mx) : Prop where
  mul : ∀ i j, i < r → j < c → (sumN c fun b => mulX r U M i b * V b j) = A i j
  uu : det r U = 1 ∨ det r U = -1
  vv : det c V = 1 ∨ det c V = -1
theorem Acc3.start (r c : Nat) (M : Mx) : Acc3 r c idX idX M M := ⟨fun i j hi hj => by
  have h := (Acc.start r c M).mul
  rw [sumN_one (a := j) hj (fun b _ hne => by unfold idX; rw [if_neg hne, Int.mul_zero])]
  unfold idX
  rw [if_pos rfl, Int.mul_one]
  exact h i j hi hj, .inl (det_id r), .inl (det_id c)⟩
theorem Acc3.congr {r c : Nat} {U V U' V' M A B : Mx} (h : Acc3 r c U V M A) (hu : EqX r U U') (hv : EqX c V V') (ha : ∀ i j, i < r → j < c → A i j = B i j) : Acc3 r c U' V' M B := by
  refine ⟨fun i j hi hj => ?_, by rw [← det_congr hu]; exact h.uu, by rw [← det_congr hv]; exact h.vv⟩
  rw [← ha i j hi hj, ← h.mul i j hi hj]
  refine sumN_congr fun b hb => ?_
  rw [hv b j hb hj]
  refine congrArg (· * _) (sumN_congr fun x hx => ?_)
  rw [hu i x hi hx]
theorem Acc3.row {r c : Nat} {U V M A : Mx} (h : Acc3 r c U V M A) {k : Int} {I J : Nat} {z : Int} (hk : k = 0 ∨ k = 1 ∨ k = 2) (hI : I < r) (hJ : J < r) (hIJ : k ≠ 1 → I ≠ J) : Acc3 r c (opX k I J z U) V M (opX k I J z A) := by
  refine ⟨fun i j hi hj => ?_, ?_, h.vv⟩
  · -- (op U) M V: the operation passes through both products
    have e1 := opX_mul (k := k) (t := z) (c := c) (M := M) hI hJ (A := mulX r U M) fun i j _ _ => rfl
    have e2 : (sumN c fun b => mulX r (opX k I J z U) M i b * V b j) = sumN c fun b => opX k I J z (mulX r U M) i b * V b j := sumN_congr fun b hb => by rw [e1 i b hi hb]
    rw [e2]
    have m := h.mul
    unfold opX
    by_cases k0 : k = 0
    · simp only [if_pos k0]
      by_cases a1 : i = I
      · simp only [if_pos a1]; exact m J j hJ hj
      · simp only [if_neg a1]
        by_cases a2 : i = J
        · simp only [if_pos a2]; exact m I j hI hj
        · simp only [if_neg a2]; exact m i j hi hj
    · simp only [if_neg k0]
      by_cases k1 : k = 1
      · simp only [if_pos k1]
        by_cases a1 : i = I
        · simp only [if_pos a1]
          rw [← m i j hi hj, show (- sumN c fun b => mulX r U M i b * V b j) = (-1) * sumN c fun b => mulX r U M i b * V b j by omega, sumN_mul_left]
          exact sumN_congr fun b _ => by grind
        · simp only [if_neg a1]; exact m i j hi hj
      · simp only [if_neg k1]
        by_cases a1 : i = I
        · simp only [if_pos a1]
          rw [← m i j hi hj, ← m J j hJ hj, sumN_mul, ← sumN_add]
          exact sumN_congr fun b _ => by grind
        · simp only [if_neg a1]; exact m i j hi hj
  · rw [opX_det U hk hI hJ hIJ]
    have := h.uu
    unfold opSg
    split <;> omega
/-- On columns: the operation on the rows of all turned over. -/
theorem Acc3.col {r c : Nat} {U V M A : Mx} (h : Acc3 r c U V M A) {k : Int} {I J : Nat} {z : Int} (hk : k = 0 ∨ k = 2) (hI : I < c) (hJ : J < c) (hIJ : I ≠ J) : Acc3 r c U (trX (opX k I J z (trX V))) M (trX (opX k I J z (trX A))) := by
  have hk' : k = 0 ∨ k = 1 ∨ k = 2 := by omega
  refine ⟨fun i j hi hj => ?_, h.uu, ?_⟩
  · have m : ∀ j i, j < c → i < r → mulX c (trX V) (trX (mulX r U M)) j i = trX A j i := fun j i hj hi => by
      show (sumN c fun b => V b j * mulX r U M i b) = A i j
      rw [← h.mul i j hi hj]
      exact sumN_congr fun b _ => Int.mul_comm _ _
    have e := opX_mul (k := k) (t := z) hI hJ m j i hj hi
    show (sumN c fun b => mulX r U M i b * opX k I J z (trX V) j b) = opX k I J z (trX A) j i
    rw [← e]
    exact sumN_congr fun b _ => Int.mul_comm _ _
  · rw [det_tr, opX_det (trX V) hk' hI hJ fun _ => hIJ, det_tr]
    have := h.vv
    unfold opSg
    split <;> omega
/-- All that always holds of the state. -/
structure Fin3 (R C : Nat) (M : Mx) (s : SSt) : Prop where
  siz : Siz3 R C s
  ok : ok3 s = true
  acc : Acc3 R C (mxC R s.2.1) (mxC C s.2.2) M (mxC C s.1)
theorem Fin3.row {R C : Nat} {M : Mx} {s : SSt} (h : Fin3 R C M s) {k : Int} {I J : Nat} {z : Int} (hk : k = 0 ∨ k = 1 ∨ k = 2) (hI : I < R) (hJ : J < R) (hIJ : k ≠ 1 → I ≠ J) (hz : NumP z) (ho : ok3 (row3 R C k I J z s) = true) :
    Fin3 R C M (row3 R C k I J z s) ∧ ∀ i j, i < R → j < C → cel3S C (row3 R C k I J z s) i j = opX k I J z (mxC C s.1) i j := by
  obtain ⟨a, b, c⟩ := ok3_and ho
  obtain ⟨a0, b0, c0⟩ := ok3_and h.ok
  have e1 := opL_mx hk h.siz.l1 a0 hI hz a
  have e2 := opL_mx hk h.siz.l2 b0 hI hz b
  exact ⟨⟨h.siz.row k I J z, ho, (h.acc.row hk hI hJ hIJ).congr (fun i j hi hj => (e2 i j hi hj).symm) (EqX.refl _ _) fun i j hi hj => (e1 i j hi hj).symm⟩, e1⟩
theorem Fin3.col {R C : Nat} {M : Mx} {s : SSt} (h : Fin3 R C M s) {k : Int} {I J : Nat} {z : Int} (hk : k = 0 ∨ k = 2) (hI : I < C) (hJ : J < C) (hIJ : I ≠ J) (hz : NumP z) (ho : ok3 (col3 C k I J z s) = true) :
    Fin3 R C M (col3 C k I J z s) ∧ ∀ i j, i < R → j < C → cel3S C (col3 C k I J z s) i j = opX k I J z (trX (mxC C s.1)) j i := by
  obtain ⟨a, b, c⟩ := ok3_and ho
  obtain ⟨a0, b0, c0⟩ := ok3_and h.ok
  have e1 := colL_mx hk h.siz.l1 a0 hz a
  have e2 := colL_mx hk h.siz.l3 c0 hz c
  exact ⟨⟨h.siz.col k I J z, ho, (h.acc.col hk hI hJ hIJ).congr (EqX.refl _ _) (fun i j hi hj => (e2 i j hi hj).symm) fun i j hi hj => (e1 i j hi hj).symm⟩, e1⟩
theorem Fin3.num {R C : Nat} {M : Mx} {s : SSt} (h : Fin3 R C M s) (i j : Nat) : NumP (cel3S C s i j) := nums_def (ok3_and h.ok).1 _
end Go.Proofs.Ytpelnfenfeoeeaa
end

section
/-
  Plain mathematics of chapter 13: the rounds towards a Smith form. Nothing of a program is used.
-/
namespace Go.Proofs.Ytpelnfenfeoeeaa

/-! ### The shape, on matrices -/
structure SmI (r c : Nat) (A : Mx) (t : Nat) : Prop where
  le1 : t ≤ r
  le2 : t ≤ c
  pos : ∀ i, i < t → 0 < A i i
  row : ∀ i j, i < t → j < c → j ≠ i → A i j = 0
  col : ∀ i j, j < t → i < r → i ≠ j → A i j = 0
  dvd : ∀ k i j, k < t → k ≤ i → i < r → k ≤ j → j < c → A k k ∣ A i j
section
variable {r c t : Nat} {A B : Mx}
theorem SmI.start (r c : Nat) (A : Mx) : SmI r c A 0 := ⟨Nat.zero_le _, Nat.zero_le _, fun i hi => by omega, fun i j hi => by omega, fun i j hj => by omega, fun k i j hk => by omega⟩
theorem SmI.move (h : SmI r c A t) (e : ∀ i j, i < t ∨ j < t → i < r → j < c → B i j = A i j) (d : ∀ k i j, k < t → t ≤ i → i < r → t ≤ j → j < c → A k k ∣ B i j) : SmI r c B t := by
  have l1 := h.le1
  have l2 := h.le2
  refine ⟨h.le1, h.le2, fun i hi => ?_, fun i j hi hj hne => ?_, fun i j hj hi hne => ?_, fun k i j hk h1 h2 h3 h4 => ?_⟩
  · rw [e i i (.inl hi) (by omega) (by omega)]; exact h.pos i hi
  · rw [e i j (.inl hi) (by omega) hj]; exact h.row i j hi hj hne
  · rw [e i j (.inr hj) hi (by omega)]; exact h.col i j hj hi hne
  · rw [e k k (.inl hk) (by omega) (by omega)]
    by_cases h5 : i < t ∨ j < t
    · rw [e i j h5 h2 h4]; exact h.dvd k i j hk h1 h2 h3 h4
    · exact d k i j hk (by omega) h2 (by omega) h4
theorem SmI.congr (h : SmI r c A t) (e : ∀ i j, i < r → j < c → B i j = A i j) : SmI r c B t :=
  h.move (fun i j _ hi hj => e i j hi hj) fun k i j hk h1 h2 h3 h4 => by rw [e i j h2 h4]; exact h.dvd k i j hk (by omega) h2 (by omega) h4
theorem SmI.tr (h : SmI r c A t) : SmI c r (trX A) t := ⟨h.le2, h.le1, h.pos, fun i j hi hj hne => h.col j i hi hj hne, fun i j hj hi hne => h.row j i hj hi hne, fun k i j hk h1 h2 h3 h4 => h.dvd k j i hk h3 h4 h1 h2⟩
theorem SmI.op (h : SmI r c A t) {k : Int} {I J : Nat} {z : Int} (hI : t ≤ I) (hIr : I < r) (hJ : t ≤ J) (hJr : J < r) : SmI r c (opX k I J z A) t := by
  refine h.move (fun i j hij hi hj => ?_) fun a i j ha h1 h2 h3 h4 => ?_
  · unfold opX
    rcases Nat.lt_or_ge i t with h5 | h5
    · rw [if_neg (by omega : ¬ i = I), if_neg (by omega : ¬ i = J), if_neg (by omega : ¬ i = I), if_neg (by omega : ¬ i = I)]
      split
      · rfl
      · split <;> rfl
    · have hj' : j < t := by omega
      have zI := h.col I j hj' hIr (by omega)
      have zJ := h.col J j hj' hJr (by omega)
      split
      · split
        · rename_i e; rw [zJ, e, zI]
        · split
          · rename_i e; rw [zI, e, zJ]
          · rfl
      · split
        · split
          · rename_i e; rw [e, zI]; rfl
          · rfl
        · split
          · rw [zJ, Int.zero_mul, Int.add_zero]
          · rfl
  · have d1 := h.dvd a i j ha (by omega) h2 (by omega) h4
    have dI := h.dvd a I j ha (by omega) hIr (by omega) h4
    have dJ := h.dvd a J j ha (by omega) hJr (by omega) h4
    unfold opX
    split
    · split
      · exact dJ
      · split
        · exact dI
        · exact d1
    · split
      · split
        · exact Int.dvd_neg.mpr d1
        · exact d1
      · split
        · exact Int.dvd_add d1 (Int.dvd_trans dJ (Int.dvd_mul_right _ _))
        · exact d1
theorem SmI.opC (h : SmI r c A t) {k : Int} {I J : Nat} {z : Int} (hI : t ≤ I) (hIr : I < c) (hJ : t ≤ J) (hJr : J < c) : SmI r c (trX (opX k I J z (trX A))) t := (h.tr.op hI hIr hJ hJr).tr
theorem SmI.put (h : SmI r c A t) (hr : t < r) (hc : t < c) (hp : 0 < A t t) (hrow : ∀ j, t < j → j < c → A t j = 0) (hcol : ∀ i, t < i → i < r → A i t = 0) (hd : ∀ i j, t < i → i < r → t < j → j < c → A t t ∣ A i j) : SmI r c A (t + 1) := by
  have sp : ∀ i, i < t + 1 → i < t ∨ i = t := fun i hi => by omega
  refine ⟨hr, hc, fun i hi => ?_, fun i j hi hj hne => ?_, fun i j hj hi hne => ?_, fun k i j hk h1 h2 h3 h4 => ?_⟩
  · rcases sp i hi with h5 | rfl
    · exact h.pos i h5
    · exact hp
  · rcases sp i hi with h5 | rfl
    · exact h.row i j h5 hj hne
    · rcases Nat.lt_or_ge j i with h6 | h6
      · exact h.col i j h6 hr (by omega)
      · exact hrow j (by omega) hj
  · rcases sp j hj with h5 | rfl
    · exact h.col i j h5 hi hne
    · rcases Nat.lt_or_ge i j with h6 | h6
      · exact h.row i j h6 hc (by omega)
      · exact hcol i (by omega) hi
  · rcases sp k hk with h5 | rfl
    · exact h.dvd k i j h5 h1 h2 h3 h4
    · by_cases h6 : i = k
      · by_cases h7 : j = k
        · rw [h6, h7]; exact Int.dvd_refl _
        · rw [h6, hrow j (by omega) h4]; exact ⟨0, by rw [Int.mul_zero]⟩
      · by_cases h7 : j = k
        · rw [h7, hcol i (by omega) h2]; exact ⟨0, by rw [Int.mul_zero]⟩
        · exact hd i j (by omega) h2 (by omega) h4
/-- Where all the rest is zeros it is a Smith form. -/
theorem SmI.done (h : SmI r c A t) (hz : ∀ i j, t ≤ i → i < r → t ≤ j → j < c → A i j = 0) : SmP r c A (fun i => if i < t then A i i else 0) := by
  have l1 := h.le1
  have l2 := h.le2
  refine ⟨fun i j hi hj => ?_, fun i hi => ?_, fun i => ?_, fun i j hij => ?_⟩
  · by_cases e : i = j
    · rw [if_pos e]
      subst e
      show A i i = if i < t then A i i else 0
      split
      · rfl
      · exact hz i i (by omega) hi (by omega) hj
    · rw [if_neg e]
      rcases Nat.lt_or_ge i t with h1 | h1
      · exact h.row i j h1 hj (Ne.symm e)
      · rcases Nat.lt_or_ge j t with h2 | h2
        · exact h.col i j h2 hi e
        · exact hz i j h1 hi h2 hj
  · show (if i < t then A i i else 0) = 0
    rw [if_neg (by omega)]
  · show 0 ≤ if i < t then A i i else 0
    split
    · rename_i h1; have := h.pos i h1; omega
    · exact Int.le_refl _
  · show (if i < t then A i i else 0) ∣ if j < t then A j j else 0
    by_cases h1 : j < t
    · rw [if_pos h1, if_pos (by omega)]
      exact h.dvd i j j (by omega) hij (by omega) hij (by omega)
    · rw [if_neg h1]; exact ⟨0, by rw [Int.mul_zero]⟩
end

/-! ### The rounds, on lists -/
def rowsF (R C t : Nat) (p : Int) (s : SSt) : Nat → SSt
  | 0 => s
  | n + 1 => if cel3S C (rowsF R C t p s n) (t + 1 + n) t ≠ 0 then row3 R C 2 (t + 1 + n) t (-(cel3S C (rowsF R C t p s n) (t + 1 + n) t / p)) (rowsF R C t p s n) else rowsF R C t p s n
def colsF (C t : Nat) (p : Int) (s : SSt) : Nat → SSt
  | 0 => s
  | n + 1 => if cel3S C (colsF C t p s n) t (t + 1 + n) ≠ 0 then col3 C 2 (t + 1 + n) t (-(cel3S C (colsF C t p s n) t (t + 1 + n) / p)) (colsF C t p s n) else colsF C t p s n
section
variable {R C t : Nat} {M : Mx} {s : SSt} {p : Int}
theorem rowsF_siz (h : Siz3 R C s) : ∀ n, Siz3 R C (rowsF R C t p s n)
  | 0 => h
  | n + 1 => by
    show Siz3 R C (if _ then _ else _)
    split
    · exact (rowsF_siz h n).row _ _ _ _
    · exact rowsF_siz h n
theorem colsF_siz (h : Siz3 R C s) : ∀ n, Siz3 R C (colsF C t p s n)
  | 0 => h
  | n + 1 => by
    show Siz3 R C (if _ then _ else _)
    split
    · exact (colsF_siz h n).col _ _ _ _
    · exact colsF_siz h n
theorem rowsF_back (h : Siz3 R C s) (ht : t < R) {n : Nat} (hn : t + 1 + n < R) (ho : ok3 (rowsF R C t p s (n + 1)) = true) : ok3 (rowsF R C t p s n) = true := by
  change ok3 (if _ then _ else _) = true at ho
  split at ho
  · exact ok3_row (rowsF_siz h n) hn ht ho
  · exact ho
theorem colsF_back (h : Siz3 R C s) (ht : t < C) {n : Nat} (hn : t + 1 + n < C) (ho : ok3 (colsF C t p s (n + 1)) = true) : ok3 (colsF C t p s n) = true := by
  change ok3 (if _ then _ else _) = true at ho
  split at ho
  · exact ok3_col (colsF_siz h n) hn ht ho
  · exact ho
theorem colsF_back0 (h : Siz3 R C s) (ht : t < C) : ∀ n, t + 1 + n ≤ C → ok3 (colsF C t p s n) = true → ok3 s = true
  | 0, _, ho => ho
  | n + 1, hn, ho => colsF_back0 h ht n (by omega) (colsF_back h ht (by omega) ho)
theorem rowsF_back0 (h : Siz3 R C s) (ht : t < R) : ∀ n, t + 1 + n ≤ R → ok3 (rowsF R C t p s n) = true → ok3 s = true
  | 0, _, ho => ho
  | n + 1, hn, ho => rowsF_back0 h ht n (by omega) (rowsF_back h ht (by omega) ho)
/-- The rows' part: row t stays, column t is reduced. -/
theorem rowsF_says (hF : Fin3 R C M s) (hI : SmI R C (mxC C s.1) t) (hr : t < R) (hc : t < C) (hp : cel3S C s t t = p) (hp0 : p ≠ 0) : ∀ n, t + 1 + n ≤ R → ok3 (rowsF R C t p s n) = true →
    Fin3 R C M (rowsF R C t p s n) ∧ SmI R C (mxC C (rowsF R C t p s n).1) t ∧ (∀ i j, i < R → j < C → (i ≤ t ∨ t + 1 + n ≤ i) → cel3S C (rowsF R C t p s n) i j = cel3S C s i j) ∧ (∀ i, t < i → i < t + 1 + n → 0 ≤ cel3S C (rowsF R C t p s n) i t ∧ cel3S C (rowsF R C t p s n) i t < (p.natAbs : Int))
  | 0, _, _ => ⟨hF, hI, fun _ _ _ _ _ => rfl, fun i h1 h2 => by omega⟩
  | n + 1, hn, ho => by
    obtain ⟨g1, g2, g3, g4⟩ := rowsF_says hF hI hr hc hp hp0 n (by omega) (rowsF_back hF.siz hr (by omega) ho)
    have ept : cel3S C (rowsF R C t p s n) t t = p := by rw [g3 t t hr hc (.inl (Nat.le_refl _))]; exact hp
    by_cases hc0 : cel3S C (rowsF R C t p s n) (t + 1 + n) t ≠ 0
    · have es : rowsF R C t p s (n + 1) = row3 R C 2 (t + 1 + n) t (-(cel3S C (rowsF R C t p s n) (t + 1 + n) t / p)) (rowsF R C t p s n) := if_pos hc0
      rw [es] at ho ⊢
      obtain ⟨k1, k2⟩ := g1.row (.inr (.inr rfl)) (by omega) hr (fun _ => by omega) (quot_num (g1.num _ _) hp0) ho
      have ql := quot_left (x := cel3S C (rowsF R C t p s n) (t + 1 + n) t) hp0
      have ce : ∀ i b, i < R → b < C → i ≠ t + 1 + n → cel3S C (row3 R C 2 (t + 1 + n) t (-(cel3S C (rowsF R C t p s n) (t + 1 + n) t / p)) (rowsF R C t p s n)) i b = cel3S C (rowsF R C t p s n) i b := fun i b hi hb hne => by
        rw [k2 i b hi hb]
        unfold opX
        rw [if_neg (by decide), if_neg (by decide), if_neg hne]; rfl
      have cn : cel3S C (row3 R C 2 (t + 1 + n) t (-(cel3S C (rowsF R C t p s n) (t + 1 + n) t / p)) (rowsF R C t p s n)) (t + 1 + n) t = cel3S C (rowsF R C t p s n) (t + 1 + n) t % p := by
        rw [k2 (t + 1 + n) t (by omega) hc, ← ql.1]
        unfold opX
        rw [if_neg (by decide), if_neg (by decide), if_pos rfl]
        change cel3S C (rowsF R C t p s n) (t + 1 + n) t + cel3S C (rowsF R C t p s n) t t * _ = _
        rw [ept]
      refine ⟨k1, (g2.op (by omega) (by omega) (Nat.le_refl _) hr).congr fun i b hi hb => k2 i b hi hb, fun i j hi hj h1 => by rw [ce i j hi hj (by omega)]; exact g3 i j hi hj (by omega), fun i h1 h2 => ?_⟩
      rcases Nat.lt_or_ge i (t + 1 + n) with h4 | h4
      · rw [ce i t (by omega) hc (by omega)]; exact g4 i h1 h4
      · obtain rfl : i = t + 1 + n := by omega
        rw [cn]; exact ql.2
    · have es : rowsF R C t p s (n + 1) = rowsF R C t p s n := if_neg hc0
      rw [es]
      refine ⟨g1, g2, fun i j hi hj h1 => g3 i j hi hj (by omega), fun i h1 h2 => ?_⟩
      rcases Nat.lt_or_ge i (t + 1 + n) with h4 | h4
      · exact g4 i h1 h4
      · obtain rfl : i = t + 1 + n := by omega
        have h0 : cel3S C (rowsF R C t p s n) (t + 1 + n) t = 0 := Classical.byContradiction fun h => hc0 h
        rw [h0]; omega
/-- The columns' part: column t stays, row t is reduced. -/
theorem colsF_says (hF : Fin3 R C M s) (hI : SmI R C (mxC C s.1) t) (hr : t < R) (hc : t < C) (hp : cel3S C s t t = p) (hp0 : p ≠ 0) : ∀ n, t + 1 + n ≤ C → ok3 (colsF C t p s n) = true →
    Fin3 R C M (colsF C t p s n) ∧ SmI R C (mxC C (colsF C t p s n).1) t ∧ (∀ i j, i < R → j < C → (j ≤ t ∨ t + 1 + n ≤ j) → cel3S C (colsF C t p s n) i j = cel3S C s i j) ∧ (∀ j, t < j → j < t + 1 + n → cel3S C (colsF C t p s n) t j = cel3S C s t j % p)
  | 0, _, _ => ⟨hF, hI, fun _ _ _ _ _ => rfl, fun i h1 h2 => by omega⟩
  | n + 1, hn, ho => by
    obtain ⟨g1, g2, g3, g4⟩ := colsF_says hF hI hr hc hp hp0 n (by omega) (colsF_back hF.siz hc (by omega) ho)
    have ept : cel3S C (colsF C t p s n) t t = p := by rw [g3 t t hr hc (.inl (Nat.le_refl _))]; exact hp
    have eold : cel3S C (colsF C t p s n) t (t + 1 + n) = cel3S C s t (t + 1 + n) := g3 t (t + 1 + n) hr (by omega) (.inr (Nat.le_refl _))
    by_cases hc0 : cel3S C (colsF C t p s n) t (t + 1 + n) ≠ 0
    · have es : colsF C t p s (n + 1) = col3 C 2 (t + 1 + n) t (-(cel3S C (colsF C t p s n) t (t + 1 + n) / p)) (colsF C t p s n) := if_pos hc0
      rw [es] at ho ⊢
      obtain ⟨k1, k2⟩ := g1.col (.inr rfl) (by omega) hc (by omega) (quot_num (g1.num _ _) hp0) ho
      have ql := quot_left (x := cel3S C (colsF C t p s n) t (t + 1 + n)) hp0
      have ce : ∀ i b, i < R → b < C → b ≠ t + 1 + n → cel3S C (col3 C 2 (t + 1 + n) t (-(cel3S C (colsF C t p s n) t (t + 1 + n) / p)) (colsF C t p s n)) i b = cel3S C (colsF C t p s n) i b := fun i b hi hb hne => by
        rw [k2 i b hi hb]
        unfold opX
        rw [if_neg (by decide), if_neg (by decide), if_neg hne]; rfl
      have cn : cel3S C (col3 C 2 (t + 1 + n) t (-(cel3S C (colsF C t p s n) t (t + 1 + n) / p)) (colsF C t p s n)) t (t + 1 + n) = cel3S C (colsF C t p s n) t (t + 1 + n) % p := by
        rw [k2 t (t + 1 + n) hr (by omega), ← ql.1]
        unfold opX
        rw [if_neg (by decide), if_neg (by decide), if_pos rfl]
        change cel3S C (colsF C t p s n) t (t + 1 + n) + cel3S C (colsF C t p s n) t t * _ = _
        rw [ept]
      refine ⟨k1, (g2.opC (by omega) (by omega) (Nat.le_refl _) hc).congr fun i b hi hb => k2 i b hi hb, fun i j hi hj h1 => by rw [ce i j hi hj (by omega)]; exact g3 i j hi hj (by omega), fun j h1 h2 => ?_⟩
      rcases Nat.lt_or_ge j (t + 1 + n) with h4 | h4
      · rw [ce t j hr (by omega) (by omega)]; exact g4 j h1 h4
      · obtain rfl : j = t + 1 + n := by omega
        rw [cn, eold]
    · have es : colsF C t p s (n + 1) = colsF C t p s n := if_neg hc0
      rw [es]
      refine ⟨g1, g2, fun i j hi hj h1 => g3 i j hi hj (by omega), fun j h1 h2 => ?_⟩
      rcases Nat.lt_or_ge j (t + 1 + n) with h4 | h4
      · exact g4 j h1 h4
      · obtain rfl : j = t + 1 + n := by omega
        have h0 : cel3S C (colsF C t p s n) t (t + 1 + n) = 0 := Classical.byContradiction fun h => hc0 h
        rw [h0]
        rw [eold] at h0
        rw [h0, Int.zero_emod]
/-- Rows, then columns. -/
def rdF (R C t : Nat) (s : SSt) : SSt := colsF C t (cel3S C s t t) (rowsF R C t (cel3S C s t t) s (R - t - 1)) (C - t - 1)
theorem rdF_says (hF : Fin3 R C M s) (hI : SmI R C (mxC C s.1) t) (hr : t < R) (hc : t < C) (hp0 : cel3S C s t t ≠ 0) (ho : ok3 (rdF R C t s) = true) :
    Fin3 R C M (rdF R C t s) ∧ SmI R C (mxC C (rdF R C t s).1) t ∧ cel3S C (rdF R C t s) t t = cel3S C s t t ∧ (∀ i, t < i → i < R → 0 ≤ cel3S C (rdF R C t s) i t ∧ cel3S C (rdF R C t s) i t < ((cel3S C s t t).natAbs : Int)) ∧ ∀ j, t < j → j < C → cel3S C (rdF R C t s) t j = cel3S C s t j % cel3S C s t t := by
  unfold rdF at ho ⊢
  obtain ⟨p, hp⟩ : ∃ p, cel3S C s t t = p := ⟨_, rfl⟩
  rw [hp] at ho hp0 ⊢
  have o1 := colsF_back0 (rowsF_siz hF.siz (R - t - 1)) hc (C - t - 1) (by omega) ho
  obtain ⟨f1, i1, a1, a2⟩ := rowsF_says hF hI hr hc hp hp0 (R - t - 1) (by omega) o1
  obtain ⟨f2, i2, b1, b2⟩ := colsF_says f1 i1 hr hc (by rw [a1 t t hr hc (.inl (Nat.le_refl _))]; exact hp) hp0 (C - t - 1) (by omega) ho
  refine ⟨f2, i2, ?_, fun i h1 h2 => ?_, fun j h1 h2 => ?_⟩
  · rw [b1 t t hr hc (.inl (Nat.le_refl _)), a1 t t hr hc (.inl (Nat.le_refl _))]; exact hp
  · rw [b1 i t h2 hc (.inl (Nat.le_refl _))]; exact a2 i h1 (by omega)
  · rw [b2 j h1 (by omega), a1 t j hr h2 (.inl (Nat.le_refl _))]
end
end Go.Proofs.Ytpelnfenfeoeeaa
end

section
/-
  Plain mathematics of chapter 13: the whole of the work towards a Smith form, and what it ends in. Nothing of a program is used.
-/
namespace Go.Proofs.Ytpelnfenfeoeeaa

theorem leastF_first (f : Nat → Int) (t : Nat) : ∀ (n p : Nat), leastF f t n = (p : Int) → ∀ i, t ≤ i → i < p → f i ≠ 0 → (f p).natAbs < (f i).natAbs
  | 0, p, h, _, _, _, _ => by
    have h : (-1 : Int) = (p : Int) := h
    omega
  | n + 1, p, h, i, h1, h2, h3 => by
    have step : leastF f t (n + 1) = if f (t + n) ≠ 0 ∧ (leastF f t n < 0 ∨ (f (t + n)).natAbs < (f (leastF f t n).toNat).natAbs) then ((t + n : Nat) : Int) else leastF f t n := rfl
    rw [step] at h
    by_cases hc : f (t + n) ≠ 0 ∧ (leastF f t n < 0 ∨ (f (t + n)).natAbs < (f (leastF f t n).toNat).natAbs)
    · rw [if_pos hc] at h
      obtain rfl : p = t + n := by omega
      rcases leastF_says f t n with ⟨a1, a2⟩ | ⟨b, a1, a2, a3, a4, a5⟩
      · exact absurd (a2 i h1 h2) h3
      · have a6 := a5 i h1 h2 h3
        have e : (leastF f t n).toNat = b := by omega
        rw [e] at hc
        rcases hc.2 with h5 | h5
        · omega
        · omega
    · rw [if_neg hc] at h
      exact leastF_first f t n p h i h1 h2 h3

/-! ### The least place -/
def plF (C t : Nat) (s : SSt) (m : Nat) : Int := cel3S C s (t + m / (C - t)) (t + m % (C - t))
def plS (R C t : Nat) (s : SSt) : Option (Nat × Nat) :=
  if leastF (plF C t s) 0 ((R - t) * (C - t)) < 0 then none
  else some (t + (leastF (plF C t s) 0 ((R - t) * (C - t))).toNat / (C - t), t + (leastF (plF C t s) 0 ((R - t) * (C - t))).toNat % (C - t))
structure PlaceP (R C t : Nat) (s : SSt) (i j : Nat) : Prop where
  eq : plS R C t s = some (i, j)
  i0 : t ≤ i
  i1 : i < R
  j0 : t ≤ j
  j1 : j < C
  nz : cel3S C s i j ≠ 0
  least : ∀ a b, t ≤ a → a < R → t ≤ b → b < C → cel3S C s a b ≠ 0 → (cel3S C s i j).natAbs ≤ (cel3S C s a b).natAbs
  first : cel3S C s t t ≠ 0 → (cel3S C s t t).natAbs ≤ (cel3S C s i j).natAbs → i = t ∧ j = t
theorem plS_says (R C t : Nat) (s : SSt) (hr : t < R) (hc : t < C) : (plS R C t s = none ∧ ∀ a b, t ≤ a → a < R → t ≤ b → b < C → cel3S C s a b = 0) ∨ ∃ i j, PlaceP R C t s i j := by
  have hw : 0 < C - t := by omega
  have at_ : ∀ a b, t ≤ a → a < R → t ≤ b → b < C → (a - t) * (C - t) + (b - t) < (R - t) * (C - t) ∧ plF C t s ((a - t) * (C - t) + (b - t)) = cel3S C s a b := fun a b h1 h2 h3 h4 => by
    have hb : b - t < C - t := by omega
    refine ⟨idx_lt (by omega) hb, ?_⟩
    unfold plF
    rw [idx_div hb, idx_mod hb, show t + (a - t) = a by omega, show t + (b - t) = b by omega]
  rcases leastF_says (plF C t s) 0 ((R - t) * (C - t)) with ⟨h1, h2⟩ | ⟨m, h1, -, h3, h4, h5⟩
  · refine .inl ⟨by unfold plS; rw [if_pos (by omega)], fun a b a1 a2 a3 a4 => ?_⟩
    obtain ⟨e1, e2⟩ := at_ a b a1 a2 a3 a4
    rw [← e2]; exact h2 _ (Nat.zero_le _) (by omega)
  · have em : (leastF (plF C t s) 0 ((R - t) * (C - t))).toNat = m := by omega
    have hi : m / (C - t) < R - t := Nat.div_lt_of_lt_mul (by rw [Nat.mul_comm]; omega)
    have hj : m % (C - t) < C - t := Nat.mod_lt _ hw
    refine .inr ⟨t + m / (C - t), t + m % (C - t), by unfold plS; rw [if_neg (by omega), em], Nat.le_add_right _ _, by omega, Nat.le_add_right _ _, by omega, h4, fun a b a1 a2 a3 a4 hne => ?_, fun hne hle => ?_⟩
    · obtain ⟨e1, e2⟩ := at_ a b a1 a2 a3 a4
      rw [← e2] at hne ⊢
      exact h5 _ (Nat.zero_le _) (by omega) hne
    · obtain ⟨e1, e2⟩ := at_ t t (Nat.le_refl _) hr (Nat.le_refl _) hc
      have e0 : (t - t) * (C - t) + (t - t) = 0 := by rw [Nat.sub_self, Nat.zero_mul]
      rw [e0] at e2
      have hm : m = 0 := by
        refine Classical.byContradiction fun hm => ?_
        have := leastF_first (plF C t s) 0 _ m h1 0 (Nat.le_refl _) (by omega) (by rw [e2]; exact hne)
        rw [e2] at this
        have hle : (cel3S C s t t).natAbs ≤ (plF C t s m).natAbs := hle
        omega
      rw [hm, Nat.zero_div, Nat.zero_mod]
      exact ⟨rfl, rfl⟩
def sw3 (R C t i j : Nat) (s : SSt) : SSt := if j ≠ t then col3 C 0 j t 0 (if i ≠ t then row3 R C 0 i t 0 s else s) else (if i ≠ t then row3 R C 0 i t 0 s else s)
def clB (R C t : Nat) (u : SSt) : Bool := ((List.range R).all fun i => decide (i ≤ t ∨ cel3S C u i t = 0)) && (List.range C).all fun j => decide (j ≤ t ∨ cel3S C u t j = 0)
theorem clB_true {R C t : Nat} {u : SSt} (h : clB R C t u = true) : (∀ i, t < i → i < R → cel3S C u i t = 0) ∧ ∀ j, t < j → j < C → cel3S C u t j = 0 := by
  unfold clB at h
  rw [Bool.and_eq_true, List.all_eq_true, List.all_eq_true] at h
  refine ⟨fun i h1 h2 => ?_, fun j h1 h2 => ?_⟩
  · have := h.1 i (List.mem_range.mpr h2)
    rw [decide_eq_true_eq] at this
    exact this.resolve_left (by omega)
  · have := h.2 j (List.mem_range.mpr h2)
    rw [decide_eq_true_eq] at this
    exact this.resolve_left (by omega)
theorem clB_false {R C t : Nat} {u : SSt} (h : clB R C t u = false) : (∃ i, t < i ∧ i < R ∧ cel3S C u i t ≠ 0) ∨ ∃ j, t < j ∧ j < C ∧ cel3S C u t j ≠ 0 := by
  refine Classical.byContradiction fun hn => ?_
  rw [not_or] at hn
  have : clB R C t u = true := by
    unfold clB
    rw [Bool.and_eq_true, List.all_eq_true, List.all_eq_true]
    refine ⟨fun i hi => ?_, fun j hj => ?_⟩
    · rw [decide_eq_true_eq]
      rcases Nat.lt_or_ge t i with h1 | h1
      · exact .inr (Classical.byContradiction fun h2 => hn.1 ⟨i, h1, List.mem_range.mp hi, h2⟩)
      · exact .inl h1
    · rw [decide_eq_true_eq]
      rcases Nat.lt_or_ge t j with h1 | h1
      · exact .inr (Classical.byContradiction fun h2 => hn.2 ⟨j, h1, List.mem_range.mp hj, h2⟩)
      · exact .inl h1
  rw [this] at h; cases h
/-- The first row that has a cell which the pivot does not divide. -/
def ndF (R C t : Nat) (u : SSt) : Option Nat := (List.range R).find? fun i => decide (t < i) && (List.range C).any fun j => decide (t < j) && decide (cel3S C u i j % cel3S C u t t ≠ 0)
theorem ndF_none {R C t : Nat} {u : SSt} (h : ndF R C t u = none) : ∀ i j, t < i → i < R → t < j → j < C → cel3S C u t t ∣ cel3S C u i j := fun i j h1 h2 h3 h4 => by
  unfold ndF at h
  rw [List.find?_eq_none] at h
  have := h i (List.mem_range.mpr h2)
  refine Int.dvd_of_emod_eq_zero (Classical.byContradiction fun hz => this ?_)
  rw [Bool.and_eq_true, decide_eq_true_eq, List.any_eq_true]
  exact ⟨h1, j, List.mem_range.mpr h4, by rw [Bool.and_eq_true, decide_eq_true_eq, decide_eq_true_eq]; exact ⟨h3, hz⟩⟩
theorem ndF_some {R C t k : Nat} {u : SSt} (h : ndF R C t u = some k) : t < k ∧ k < R ∧ ∃ j, t < j ∧ j < C ∧ cel3S C u k j % cel3S C u t t ≠ 0 := by
  unfold ndF at h
  have h1 := List.find?_some h
  have h2 := List.mem_of_find?_eq_some h
  rw [Bool.and_eq_true, decide_eq_true_eq, List.any_eq_true] at h1
  obtain ⟨h3, j, h4, h5⟩ := h1
  rw [Bool.and_eq_true, decide_eq_true_eq, decide_eq_true_eq] at h5
  exact ⟨h3, List.mem_range.mp h2, j, h5.1, List.mem_range.mp h4, h5.2⟩
def loopS (R C t : Nat) : Nat → SSt → Option (SSt × Bool)
  | 0, _ => none
  | f + 1, s => match plS R C t s with
    | none => some (s, false)
    | some (i, j) => if ok3 (rdF R C t (sw3 R C t i j s)) = true then
        (if clB R C t (rdF R C t (sw3 R C t i j s)) = true then
          (match ndF R C t (rdF R C t (sw3 R C t i j s)) with
            | none => some (rdF R C t (sw3 R C t i j s), true)
            | some k => if ok3 (row3 R C 2 t k 1 (rdF R C t (sw3 R C t i j s))) = true then loopS R C t f (row3 R C 2 t k 1 (rdF R C t (sw3 R C t i j s))) else none)
        else loopS R C t f (rdF R C t (sw3 R C t i j s)))
      else none
section
variable {R C t : Nat} {M : Mx} {s : SSt}
theorem sw3_siz {i j : Nat} (h : Siz3 R C s) : Siz3 R C (sw3 R C t i j s) := by
  unfold sw3
  split
  · refine Siz3.col ?_ _ _ _ _
    split
    · exact h.row _ _ _ _
    · exact h
  · split
    · exact h.row _ _ _ _
    · exact h
theorem sw3_says {i j : Nat} (hF : Fin3 R C M s) (hI : SmI R C (mxC C s.1) t) (hr : t < R) (hc : t < C) (hi : t ≤ i) (hiR : i < R) (hj : t ≤ j) (hjC : j < C) (ho : ok3 (sw3 R C t i j s) = true) :
    Fin3 R C M (sw3 R C t i j s) ∧ SmI R C (mxC C (sw3 R C t i j s).1) t ∧ cel3S C (sw3 R C t i j s) t t = cel3S C s i j := by
  obtain ⟨s1, hs1⟩ : ∃ s1, (if i ≠ t then row3 R C 0 i t 0 s else s) = s1 := ⟨_, rfl⟩
  have e1 : sw3 R C t i j s = if j ≠ t then col3 C 0 j t 0 s1 else s1 := by unfold sw3; rw [hs1]
  have z1 : Siz3 R C s1 := by
    rw [← hs1]; split
    · exact hF.siz.row _ _ _ _
    · exact hF.siz
  have o1 : ok3 s1 = true := by
    rw [e1] at ho
    split at ho
    · exact ok3_col z1 hjC hc ho
    · exact ho
  have g1 : Fin3 R C M s1 ∧ SmI R C (mxC C s1.1) t ∧ cel3S C s1 t j = cel3S C s i j := by
    by_cases e : i = t
    · have es : s1 = s := by rw [← hs1, if_neg (fun h => h e)]
      rw [es, e]; exact ⟨hF, hI, rfl⟩
    · have es : s1 = row3 R C 0 i t 0 s := by rw [← hs1, if_pos e]
      rw [es] at o1 ⊢
      obtain ⟨k1, k2⟩ := hF.row (.inl rfl) hiR hr (fun _ => e) (by decide) o1
      refine ⟨k1, (hI.op hi hiR (Nat.le_refl _) hr).congr fun a b ha hb => k2 a b ha hb, ?_⟩
      rw [k2 t j hr hjC]
      unfold opX
      rw [if_pos rfl, if_neg (Ne.symm e), if_pos rfl]; rfl
  obtain ⟨f1, i1, c1⟩ := g1
  rw [e1] at ho ⊢
  by_cases e : j = t
  · rw [if_neg (fun h => h e)]
    rw [e] at c1 ⊢
    exact ⟨f1, i1, c1⟩
  · rw [if_pos e] at ho ⊢
    obtain ⟨k1, k2⟩ := f1.col (.inl rfl) hjC hc e (by decide) ho
    refine ⟨k1, (i1.opC hj hjC (Nat.le_refl _) hc).congr fun a b ha hb => k2 a b ha hb, ?_⟩
    rw [k2 t t hr hc, ← c1]
    unfold opX
    rw [if_pos rfl, if_neg (Ne.symm e), if_pos rfl]; rfl
theorem rd_back (h : Siz3 R C s) (hr : t < R) (hc : t < C) (ho : ok3 (rdF R C t s) = true) : ok3 s = true :=
  rowsF_back0 h hr (R - t - 1) (by omega) (colsF_back0 (rowsF_siz h (R - t - 1)) hc (C - t - 1) (by omega) ho)
/-- One round. -/
theorem round_says {i j : Nat} (hF : Fin3 R C M s) (hI : SmI R C (mxC C s.1) t) (hr : t < R) (hc : t < C) (hP : PlaceP R C t s i j) (ho : ok3 (rdF R C t (sw3 R C t i j s)) = true) :
    Fin3 R C M (rdF R C t (sw3 R C t i j s)) ∧ SmI R C (mxC C (rdF R C t (sw3 R C t i j s)).1) t ∧ cel3S C (rdF R C t (sw3 R C t i j s)) t t = cel3S C s i j ∧ (∀ a, t < a → a < R → 0 ≤ cel3S C (rdF R C t (sw3 R C t i j s)) a t ∧ cel3S C (rdF R C t (sw3 R C t i j s)) a t < ((cel3S C s i j).natAbs : Int)) ∧ ∀ b, t < b → b < C → cel3S C (rdF R C t (sw3 R C t i j s)) t b = cel3S C (sw3 R C t i j s) t b % cel3S C s i j := by
  have o1 := rd_back (sw3_siz hF.siz) hr hc ho
  obtain ⟨f1, i1, c1⟩ := sw3_says hF hI hr hc hP.i0 hP.i1 hP.j0 hP.j1 o1
  have := rdF_says f1 i1 hr hc (by rw [c1]; exact hP.nz) ho
  rwa [c1] at this
theorem loopS_says (hr : t < R) (hc : t < C) : ∀ (f : Nat) (s : SSt) {u : SSt} {b : Bool}, Fin3 R C M s → SmI R C (mxC C s.1) t → loopS R C t f s = some (u, b) →
    Fin3 R C M u ∧ SmI R C (mxC C u.1) t ∧ (b = false → ∀ i j, t ≤ i → i < R → t ≤ j → j < C → cel3S C u i j = 0) ∧ (b = true → cel3S C u t t ≠ 0 ∧ (∀ i, t < i → i < R → cel3S C u i t = 0) ∧ (∀ j, t < j → j < C → cel3S C u t j = 0) ∧ ∀ i j, t < i → i < R → t < j → j < C → cel3S C u t t ∣ cel3S C u i j)
  | 0, _, _, _, _, _, h => by cases h
  | f + 1, s, u, b, hF, hI, h => by
    rcases plS_says R C t s hr hc with ⟨h1, h2⟩ | ⟨i, j, hP⟩
    · have e : loopS R C t (f + 1) s = some (s, false) := by
        show (match plS R C t s with | none => some (s, false) | some (i, j) => _) = _
        rw [h1]
      rw [e] at h
      cases h
      exact ⟨hF, hI, fun _ => h2, fun h => by cases h⟩
    · have e : loopS R C t (f + 1) s = if ok3 (rdF R C t (sw3 R C t i j s)) = true then
          (if clB R C t (rdF R C t (sw3 R C t i j s)) = true then
            (match ndF R C t (rdF R C t (sw3 R C t i j s)) with
              | none => some (rdF R C t (sw3 R C t i j s), true)
              | some k => if ok3 (row3 R C 2 t k 1 (rdF R C t (sw3 R C t i j s))) = true then loopS R C t f (row3 R C 2 t k 1 (rdF R C t (sw3 R C t i j s))) else none)
          else loopS R C t f (rdF R C t (sw3 R C t i j s)))
        else none := by
        show (match plS R C t s with | none => some (s, false) | some (i, j) => _) = _
        rw [hP.eq]
      rw [e] at h
      by_cases ho : ok3 (rdF R C t (sw3 R C t i j s)) = true
      · rw [if_pos ho] at h
        obtain ⟨g1, g2, g3, -, -⟩ := round_says hF hI hr hc hP ho
        by_cases hcl : clB R C t (rdF R C t (sw3 R C t i j s)) = true
        · rw [if_pos hcl] at h
          cases hn : ndF R C t (rdF R C t (sw3 R C t i j s)) with
          | none =>
            rw [hn] at h
            cases h
            obtain ⟨c1, c2⟩ := clB_true hcl
            exact ⟨g1, g2, (fun h => by cases h), fun _ => ⟨by rw [g3]; exact hP.nz, c1, c2, ndF_none hn⟩⟩
          | some k =>
            rw [hn] at h
            dsimp only at h
            obtain ⟨k0, k1, -⟩ := ndF_some hn
            by_cases ho2 : ok3 (row3 R C 2 t k 1 (rdF R C t (sw3 R C t i j s))) = true
            · rw [if_pos ho2] at h
              obtain ⟨q1, q2⟩ := g1.row (.inr (.inr rfl)) hr k1 (fun _ => by omega) (by decide) ho2
              exact loopS_says hr hc f _ q1 ((g2.op (Nat.le_refl _) hr (by omega) k1).congr fun a b ha hb => q2 a b ha hb) h
            · rw [if_neg ho2] at h; cases h
        · rw [if_neg hcl] at h
          exact loopS_says hr hc f _ g1 g2 h
      · rw [if_neg ho] at h; cases h
end
end Go.Proofs.Ytpelnfenfeoeeaa
end

section
/-
  Plain mathematics of chapter 13: the rounds come to an end; Smith forms as they are made. Nothing of a program is used.
-/
namespace Go.Proofs.Ytpelnfenfeoeeaa

/-- The next round is sure to leave something smaller. -/
def FlagS (R C t : Nat) (s : SSt) : Prop := plS R C t s = some (t, t) ∧ ∃ b, t < b ∧ b < C ∧ cel3S C s t b % cel3S C s t t ≠ 0
/-- There is enough left to count. -/
def FuelS (R C t f : Nat) (s : SSt) : Prop := 1 ≤ f ∧ ∀ i j, plS R C t s = some (i, j) → 2 * (cel3S C s i j).natAbs + 1 < f ∨ (FlagS R C t s ∧ 2 * (cel3S C s i j).natAbs < f)
def fu0 (R C t : Nat) (s : SSt) : Nat := match plS R C t s with
  | none => 1
  | some (i, j) => 2 * (cel3S C s i j).natAbs + 2
theorem FuelS.start (R C t : Nat) (s : SSt) : FuelS R C t (fu0 R C t s) s := by
  refine ⟨?_, fun i j h => ?_⟩
  · unfold fu0; split <;> omega
  · unfold fu0; rw [h]; exact .inl (by dsimp only; omega)
section
variable {R C t : Nat} {M : Mx} {s : SSt}
theorem FuelS.of_small {u : SSt} {f m a b : Nat} (hr : t < R) (hc : t < C) (hm : 2 * m ≤ f) (ha : t ≤ a) (haR : a < R) (hb : t ≤ b) (hbC : b < C) (hz : cel3S C u a b ≠ 0) (hl : (cel3S C u a b).natAbs < m) : FuelS R C t f u := by
  refine ⟨by omega, fun i j h => ?_⟩
  rcases plS_says R C t u hr hc with ⟨h1, -⟩ | ⟨i', j', hP⟩
  · rw [h1] at h; cases h
  · rw [hP.eq] at h
    cases h
    have := hP.least a b ha haR hb hbC hz
    exact .inl (by omega)
/-- Something is left: the next round begins with a smaller number. -/
theorem fuel_left {i j f : Nat} (hF : Fin3 R C M s) (hI : SmI R C (mxC C s.1) t) (hr : t < R) (hc : t < C) (hP : PlaceP R C t s i j) (hfu : FuelS R C t (f + 1) s) (ho : ok3 (rdF R C t (sw3 R C t i j s)) = true) (hcl : clB R C t (rdF R C t (sw3 R C t i j s)) = false) : FuelS R C t f (rdF R C t (sw3 R C t i j s)) := by
  obtain ⟨-, -, -, g4, g5⟩ := round_says hF hI hr hc hP ho
  have hm : 2 * (cel3S C s i j).natAbs ≤ f := by
    rcases hfu.2 i j hP.eq with h | h
    · omega
    · omega
  have hnz := hP.nz
  rcases clB_false hcl with ⟨a, h1, h2, h3⟩ | ⟨b, h1, h2, h3⟩
  · have := g4 a h1 h2
    exact FuelS.of_small hr hc hm (by omega) h2 (Nat.le_refl _) hc h3 (by omega)
  · have e := g5 b h1 h2
    have b1 := Int.emod_nonneg (cel3S C (sw3 R C t i j s) t b) hnz
    have b2 := Int.emod_lt (cel3S C (sw3 R C t i j s) t b) hnz
    exact FuelS.of_small hr hc hm (Nat.le_refl _) hr (by omega) h2 h3 (by omega)
/-- A row is added: the next round is sure to leave something smaller. -/
theorem fuel_add {i j f k : Nat} (hF : Fin3 R C M s) (hI : SmI R C (mxC C s.1) t) (hr : t < R) (hc : t < C) (hP : PlaceP R C t s i j) (hfu : FuelS R C t (f + 1) s) (ho : ok3 (rdF R C t (sw3 R C t i j s)) = true) (hcl : clB R C t (rdF R C t (sw3 R C t i j s)) = true) (hn : ndF R C t (rdF R C t (sw3 R C t i j s)) = some k) (ho2 : ok3 (row3 R C 2 t k 1 (rdF R C t (sw3 R C t i j s))) = true) : FuelS R C t f (row3 R C 2 t k 1 (rdF R C t (sw3 R C t i j s))) := by
  obtain ⟨g1, -, g3, -, g5⟩ := round_says hF hI hr hc hP ho
  obtain ⟨c1, c2⟩ := clB_true hcl
  obtain ⟨k0, k1, b, b0, b1, b2⟩ := ndF_some hn
  have hnz := hP.nz
  have hm : 2 * (cel3S C s i j).natAbs + 1 ≤ f := by
    rcases hfu.2 i j hP.eq with h | ⟨⟨e, b', h1, h2, h3⟩, -⟩
    · omega
    · exfalso
      rw [hP.eq] at e
      cases e
      have es : sw3 R C t t t s = s := by
        unfold sw3
        rw [if_neg (fun h => h rfl), if_neg (fun h => h rfl)]
      have := g5 b' h1 h2
      rw [c2 b' h1 h2, es] at this
      exact h3 this.symm
  obtain ⟨-, q2⟩ := g1.row (.inr (.inr rfl)) hr k1 (fun _ => by omega) (by decide) ho2
  have row : ∀ x, x < C → cel3S C (row3 R C 2 t k 1 (rdF R C t (sw3 R C t i j s))) t x = cel3S C (rdF R C t (sw3 R C t i j s)) t x + cel3S C (rdF R C t (sw3 R C t i j s)) k x := fun x hx => by
    rw [q2 t x hr hx]
    unfold opX
    rw [if_neg (by decide), if_neg (by decide), if_pos rfl, Int.mul_one]; rfl
  have ep : cel3S C (row3 R C 2 t k 1 (rdF R C t (sw3 R C t i j s))) t t = cel3S C s i j := by rw [row t hc, c1 k k0 k1, g3, Int.add_zero]
  have eb : cel3S C (row3 R C 2 t k 1 (rdF R C t (sw3 R C t i j s))) t b = cel3S C (rdF R C t (sw3 R C t i j s)) k b := by rw [row b b1, c2 b b0 b1, Int.zero_add]
  rw [g3] at b2
  rw [← eb] at b2
  generalize row3 R C 2 t k 1 (rdF R C t (sw3 R C t i j s)) = w at ep b2 ⊢
  refine ⟨by omega, fun i' j' h => ?_⟩
  rcases plS_says R C t w hr hc with ⟨h1, -⟩ | ⟨a', b', hP'⟩
  · rw [h1] at h; cases h
  · rw [hP'.eq] at h
    cases h
    have hle := hP'.least t t (Nat.le_refl _) hr (Nat.le_refl _) hc (by rw [ep]; exact hnz)
    rw [ep] at hle
    by_cases hlt : (cel3S C w i' j').natAbs < (cel3S C s i j).natAbs
    · exact .inl (by omega)
    · obtain ⟨e1, e2⟩ := hP'.first (by rw [ep]; exact hnz) (by rw [ep]; omega)
      subst e1 e2
      exact .inr ⟨⟨hP'.eq, b, b0, b1, by rw [ep]; exact b2⟩, by omega⟩

/-! ### All of it -/
theorem nums_neg {I J C : Nat} {z : Int} {xs : List Int} (h : nums xs = true) : nums (opL 1 I J z C xs) = true := nums_true fun p hp => by
  rw [opL_length] at hp
  rw [opL_getD hp]
  unfold opAt
  rw [if_neg (by decide), if_pos rfl]
  have hx := nums_def h p
  split
  · rw [mulB_num hx (by decide)]
    have : NumP (xs.getD p 0 * -1) := by unfold NumP at *; omega
    rw [fitB_num this]; exact this
  · exact hx
def ng3 (R C t : Nat) (u : SSt) : SSt := if cel3S C u t t < 0 then row3 R C 1 t t 0 u else u
theorem ng3_says (hF : Fin3 R C M s) (hI : SmI R C (mxC C s.1) t) (hr : t < R) (hc : t < C) (h0 : cel3S C s t t ≠ 0) (h1 : ∀ i, t < i → i < R → cel3S C s i t = 0) (h2 : ∀ j, t < j → j < C → cel3S C s t j = 0) (h3 : ∀ i j, t < i → i < R → t < j → j < C → cel3S C s t t ∣ cel3S C s i j) : Fin3 R C M (ng3 R C t s) ∧ SmI R C (mxC C (ng3 R C t s).1) (t + 1) := by
  by_cases hn : cel3S C s t t < 0
  · have es : ng3 R C t s = row3 R C 1 t t 0 s := if_pos hn
    rw [es]
    obtain ⟨a, b, c⟩ := ok3_and hF.ok
    obtain ⟨q1, q2⟩ := hF.row (k := 1) (I := t) (J := t) (z := 0) (.inr (.inl rfl)) hr hr (fun h => absurd rfl h) (by decide) (ok3_of (nums_neg a) (nums_neg b) c)
    have other : ∀ i j, i < R → j < C → i ≠ t → cel3S C (row3 R C 1 t t 0 s) i j = cel3S C s i j := fun i j hi hj hne => by
      rw [q2 i j hi hj]
      unfold opX
      rw [if_neg (by decide), if_pos rfl, if_neg hne]; rfl
    have own : ∀ j, j < C → cel3S C (row3 R C 1 t t 0 s) t j = - cel3S C s t j := fun j hj => by
      rw [q2 t j hr hj]
      unfold opX
      rw [if_neg (by decide), if_pos rfl, if_pos rfl]; rfl
    refine ⟨q1, ((hI.op (k := 1) (z := 0) (Nat.le_refl _) hr (Nat.le_refl _) hr).congr fun i j hi hj => q2 i j hi hj).put hr hc ?_ ?_ ?_ ?_⟩
    · have := own t hc
      change 0 < cel3S C (row3 R C 1 t t 0 s) t t
      omega
    · intro j hj hjC
      have := own j hjC
      rw [h2 j hj hjC] at this
      exact this
    · intro i hi hiR
      exact (other i t hiR hc (by omega)).trans (h1 i hi hiR)
    · intro i j hi hiR hj hjC
      change cel3S C (row3 R C 1 t t 0 s) t t ∣ cel3S C (row3 R C 1 t t 0 s) i j
      rw [own t hc, other i j hiR hjC (by omega)]
      exact Int.neg_dvd.mpr (h3 i j hi hiR hj hjC)
  · have es : ng3 R C t s = s := if_neg hn
    rw [es]
    exact ⟨hF, hI.put hr hc (by change 0 < cel3S C s t t; omega) h2 h1 h3⟩
end
def outS (R C : Nat) : Nat → Nat → SSt → Option SSt
  | 0, _, s => some s
  | n + 1, t, s => match loopS R C t (fu0 R C t s) s with
    | none => none
    | some (u, b) => if b = true then outS R C n (t + 1) (ng3 R C t u) else some u
theorem outS_says {R C : Nat} {M : Mx} : ∀ (n t : Nat) (s : SSt) {s' : SSt}, t + n = min R C → Fin3 R C M s → SmI R C (mxC C s.1) t → outS R C n t s = some s' → Fin3 R C M s' ∧ ∃ f, SmP R C (mxC C s'.1) f
  | 0, t, s, s', hn, hF, hI, h => by
    cases h
    exact ⟨hF, _, hI.done fun i j h1 h2 h3 h4 => by omega⟩
  | n + 1, t, s, s', hn, hF, hI, h => by
    have hr : t < R := by omega
    have hc : t < C := by omega
    have e : outS R C (n + 1) t s = (match loopS R C t (fu0 R C t s) s with
      | none => none
      | some (u, b) => if b = true then outS R C n (t + 1) (ng3 R C t u) else some u) := rfl
    rw [e] at h
    cases hl : loopS R C t (fu0 R C t s) s with
    | none => rw [hl] at h; cases h
    | some z =>
      obtain ⟨u, b⟩ := z
      rw [hl] at h
      dsimp only at h
      obtain ⟨f1, i1, z1, z2⟩ := loopS_says hr hc _ s hF hI hl
      cases b with
      | false =>
        rw [if_neg (by decide)] at h
        cases h
        exact ⟨f1, _, i1.done (z1 rfl)⟩
      | true =>
        rw [if_pos rfl] at h
        obtain ⟨y0, y1, y2, y3⟩ := z2 rfl
        obtain ⟨f2, i2⟩ := ng3_says f1 i1 hr hc y0 y1 y2 y3
        exact outS_says n (t + 1) _ (by omega) f2 i2 h
/-- What SmithForm finds. -/
def smX (R C : Nat) (xs : List Int) : Option SSt := outS R C (min R C) 0 (xs, idL R R, idL C C)
theorem smX_says {R C : Nat} {xs : List Int} {s : SSt} (hl : xs.length = R * C) (hn : nums xs = true) (h : smX R C xs = some s) : Fin3 R C (mxC C xs) s ∧ ∃ f, SmP R C (mxC C s.1) f := by
  refine outS_says (min R C) 0 (xs, idL R R, idL C C) (by omega) ⟨⟨hl, idL_length R R, idL_length C C, MkOr.of_nums hn, MkOr.of_nums (idL_nums R), MkOr.of_nums (idL_nums C)⟩, ok3_of hn (idL_nums R) (idL_nums C), ?_⟩ (SmI.start _ _ _) h
  exact (Acc3.start R C (mxC C xs)).congr (mxL_idL R).symm (mxL_idL C).symm fun _ _ _ _ => rfl
/-- Its numbers have the minors' divisors. -/
theorem smX_div {R C : Nat} {xs : List Int} {s : SSt} (hl : xs.length = R * C) (hn : nums xs = true) (h : smX R C xs = some s) (d : Int) (k : Nat) : DivK d k R C (mxC C xs) ↔ DivK d k R C (mxC C s.1) := by
  obtain ⟨f, -⟩ := smX_says hl hn h
  exact DivK.both f.acc.uu f.acc.vv f.acc.mul d k
end Go.Proofs.Ytpelnfenfeoeeaa
end

section
/-
  Plain mathematics of chapter 13: what SmithForm, IsSmith and FactorsOf answer.
-/
namespace Go.Proofs.Ytpelnfenfeoeeaa

/-! ### IsSmith -/
/-- What a cell of the diagonal is a multiple of. -/
def lastD (C : Nat) (xs : List Int) (a : Nat) : Int := match a with
  | 0 => 1
  | a + 1 => mxC C xs a a
/-- A cell is as it should be. -/
def okD (C : Nat) (xs : List Int) (a b : Nat) : Prop := (a ≠ b → mxC C xs a b = 0) ∧ 0 ≤ mxC C xs a b ∧ (a = b → lastD C xs a ∣ mxC C xs a b)
instance (C : Nat) (xs : List Int) (a b : Nat) : Decidable (okD C xs a b) := by unfold okD; exact inferInstance
def smB (R C : Nat) (xs : List Int) : Bool := (List.range R).all fun a => (List.range C).all fun b => decide (okD C xs a b)
theorem smB_iff {R C : Nat} {xs : List Int} : smB R C xs = true ↔ ∀ a b, a < R → b < C → okD C xs a b := by
  unfold smB
  simp only [List.all_eq_true, List.mem_range, decide_eq_true_eq]
  exact ⟨fun h a b ha hb => h a ha b hb, fun h a ha b hb => h a b ha hb⟩
/-- What IsSmith answers. -/
def smIs (r c : Int) (xs : List Int) : Bool := isMat r c xs && smB r.toNat c.toNat xs
/-- The numbers of the diagonal, zeros behind it. -/
def diaF (R C : Nat) (xs : List Int) (i : Nat) : Int := if i < R ∧ i < C then mxC C xs i i else 0
theorem smB_form {R C : Nat} {xs : List Int} (h : smB R C xs = true) : SmP R C (mxC C xs) (diaF R C xs) := by
  have h := smB_iff.1 h
  have nx : ∀ i, diaF R C xs i ∣ diaF R C xs (i + 1) := fun i => by
    unfold diaF
    by_cases h1 : i + 1 < R ∧ i + 1 < C
    · rw [if_pos h1, if_pos (by omega)]
      exact (h (i + 1) (i + 1) h1.1 h1.2).2.2 rfl
    · rw [if_neg h1]; exact Int.dvd_zero _
  refine ⟨fun i j hi hj => ?_, fun i hi => ?_, fun i => ?_, fun i j hij => ?_⟩
  · by_cases e : i = j
    · subst e
      rw [if_pos rfl]
      unfold diaF
      rw [if_pos ⟨hi, hj⟩]
    · rw [if_neg e]; exact (h i j hi hj).1 e
  · unfold diaF; rw [if_neg (by omega)]
  · unfold diaF
    split
    · rename_i h1; exact (h i i h1.1 h1.2).2.1
    · exact Int.le_refl 0
  · obtain ⟨k, rfl⟩ : ∃ k, j = i + k := ⟨j - i, by omega⟩
    clear hij
    induction k with
    | zero => exact Int.dvd_refl _
    | succ k ih => exact Int.dvd_trans ih (nx (i + k))
theorem smB_of {R C : Nat} {xs : List Int} {f : Nat → Int} (h : SmP R C (mxC C xs) f) : smB R C xs = true := smB_iff.2 fun a b ha hb => by
  have e := h.dia a b ha hb
  refine ⟨fun hne => by rw [e, if_neg hne], ?_, fun hab => ?_⟩
  · rw [e]
    split
    · exact h.nn a
    · exact Int.le_refl 0
  · subst hab
    rw [e, if_pos rfl]
    cases a with
    | zero => exact ⟨f 0, by show f 0 = 1 * f 0; rw [Int.one_mul]⟩
    | succ a =>
      show mxC C xs a a ∣ _
      rw [h.dia a a (by omega) (by omega), if_pos rfl]
      exact h.dvd a (a + 1) (by omega)
theorem SmP.diaF {R C : Nat} {xs : List Int} {f : Nat → Int} (h : SmP R C (mxC C xs) f) (i : Nat) : Go.Proofs.Ytpelnfenfeoeeaa.diaF R C xs i = f i := by
  unfold Go.Proofs.Ytpelnfenfeoeeaa.diaF
  by_cases e : i < R ∧ i < C
  · rw [if_pos e, h.dia i i e.1 e.2, if_pos rfl]
  · rw [if_neg e]
    exact (h.out i (by omega)).symm
/-- The cells that have been looked at, in the order of the rows. -/
def seenD (R C : Nat) (xs : List Int) (i j : Nat) : Prop := ∀ a b, a < R → b < C → (a < i ∨ (a = i ∧ b < j)) → okD C xs a b
theorem seenD_zero (R C : Nat) (xs : List Int) : seenD R C xs 0 0 := fun a b _ _ h => by omega
theorem seenD_step {R C i j : Nat} {xs : List Int} (h : seenD R C xs i j) (hc : okD C xs i j) : seenD R C xs i (j + 1) := fun a b ha hb hs => by
  by_cases e : a = i ∧ b = j
  · rw [e.1, e.2]; exact hc
  · exact h a b ha hb (by omega)
theorem seenD_row {R C i : Nat} {xs : List Int} (h : seenD R C xs i C) : seenD R C xs (i + 1) 0 := fun a b ha hb hs => h a b ha hb (by omega)
theorem seenD_all {R C : Nat} {xs : List Int} (h : seenD R C xs R 0) : smB R C xs = true := smB_iff.2 fun a b ha hb => h a b ha hb (.inl ha)
theorem smB_bad {R C a b : Nat} {xs : List Int} (ha : a < R) (hb : b < C) (h : ¬ okD C xs a b) : smB R C xs = false := by
  cases e : smB R C xs with
  | false => rfl
  | true => exact absurd (smB_iff.1 e a b ha hb) h

/-! ### FactorsOf -/
/-- The numbers of the diagonal that are not 0, of the first i. -/
def fcL (_R C : Nat) (xs : List Int) (i : Nat) : List Int := ((List.range i).map fun k => mxC C xs k k).filter fun x => decide (x ≠ 0)
theorem fcL_zero (R C : Nat) (xs : List Int) : fcL R C xs 0 = [] := rfl
theorem fcL_succ (R C : Nat) (xs : List Int) (i : Nat) : fcL R C xs (i + 1) = if mxC C xs i i = 0 then fcL R C xs i else fcL R C xs i ++ [mxC C xs i i] := by
  unfold fcL
  rw [List.range_succ, List.map_append, List.filter_append]
  by_cases h : mxC C xs i i = 0
  · rw [if_pos h]; simp [h]
  · rw [if_neg h]; simp [h]
theorem fcL_le (R C : Nat) (xs : List Int) (i : Nat) : (fcL R C xs i).length ≤ i := by
  unfold fcL
  refine Nat.le_trans (List.length_filter_le _ _) ?_
  simp
/-- In a Smith form the first numbers are those that are not 0. -/
theorem fcL_form {R C : Nat} {xs : List Int} {f : Nat → Int} (h : SmP R C (mxC C xs) f) : ∃ T, T ≤ min R C ∧ (∀ i, i < T → f i ≠ 0) ∧ (∀ i, T ≤ i → f i = 0) ∧ fcL R C xs (min R C) = (List.range T).map f := by
  have key : ∀ n, n ≤ min R C → ∃ T, T ≤ n ∧ (∀ i, i < T → f i ≠ 0) ∧ (∀ i, T ≤ i → i < n → f i = 0) ∧ fcL R C xs n = (List.range T).map f := fun n => by
    induction n with
    | zero => exact fun _ => ⟨0, Nat.le_refl _, fun i hi => by omega, fun i _ hi => by omega, rfl⟩
    | succ n ih =>
      intro hn
      obtain ⟨T, h1, h2, h3, h4⟩ := ih (by omega)
      have e : mxC C xs n n = f n := by rw [h.dia n n (by omega) (by omega), if_pos rfl]
      rw [fcL_succ, e]
      by_cases h0 : f n = 0
      · rw [if_pos h0]
        refine ⟨T, by omega, h2, fun i hi hin => ?_, h4⟩
        rcases Nat.lt_or_ge i n with h5 | h5
        · exact h3 i hi h5
        · obtain rfl : i = n := by omega
          exact h0
      · rw [if_neg h0]
        have hT : T = n := by
          rcases Nat.lt_or_ge T n with h5 | h5
          · have h6 := h.dvd T n (by omega)
            rw [h3 T (Nat.le_refl _) h5] at h6
            exact absurd (Int.zero_dvd.mp h6) h0
          · omega
        subst hT
        refine ⟨T + 1, Nat.le_refl _, fun i hi => ?_, fun i hi hin => by omega, ?_⟩
        · rcases Nat.lt_or_ge i T with h5 | h5
          · exact h2 i h5
          · obtain rfl : i = T := by omega
            exact h0
        · rw [h4, List.range_succ, List.map_append]; rfl
  obtain ⟨T, h1, h2, h3, h4⟩ := key (min R C) (Nat.le_refl _)
  refine ⟨T, h1, h2, fun i hi => ?_, h4⟩
  rcases Nat.lt_or_ge i (min R C) with h5 | h5
  · exact h3 i hi h5
  · exact h.out i (by omega)
/-- The product of a list's numbers, as the laws make it. -/
def prodL (l : List Int) : Int := l.foldl (fun n x => n * x) 1
theorem prodL_snoc (l : List Int) (x : Int) : prodL (l ++ [x]) = prodL l * x := by simp [prodL]
theorem prodL_map (f : Nat → Int) : ∀ n, prodL ((List.range n).map f) = prodI f n
  | 0 => rfl
  | n + 1 => by rw [List.range_succ, List.map_append, List.map_cons, List.map_nil, prodL_snoc, prodL_map f n]; rfl

/-! ### SmithForm -/
/-- What SmithForm answers: three matrices and whether there are any. -/
structure SR where
  ok : Bool
  d : MR
  u : MR
  v : MR
def SR.no : SR := ⟨false, MR.no, MR.no, MR.no⟩
def SR.of (r c : Int) : Option SSt → SR
  | some s => ⟨true, ⟨true, r, c, s.1⟩, ⟨true, r, r, s.2.1⟩, ⟨true, c, c, s.2.2⟩⟩
  | none => SR.no
def smR (r c : Int) (xs : List Int) : SR := if isMat r c xs = true then SR.of r c (smX r.toNat c.toNat xs) else SR.no
theorem smR_no {r c : Int} {xs : List Int} (h : isMat r c xs = false) : smR r c xs = SR.no := by unfold smR; rw [if_neg (by rw [h]; decide)]
/-- What FactorsOf answers. -/
def fcX (r c : Int) (xs : List Int) : List Int × Bool := if (smR r c xs).ok = true then (fcL r.toNat c.toNat (smR r c xs).d.zs (min r.toNat c.toNat), true) else ([], false)
theorem smR_says {r c : Int} {xs : List Int} (h : (smR r c xs).ok = true) : ∃ (R C : Nat) (s : SSt) (f : Nat → Int), r = R ∧ c = C ∧ R ≤ 24 ∧ C ≤ 24 ∧ isMat r c xs = true ∧ xs.length = R * C ∧ nums xs = true ∧ smX R C xs = some s ∧ smR r c xs = ⟨true, ⟨true, R, C, s.1⟩, ⟨true, R, R, s.2.1⟩, ⟨true, C, C, s.2.2⟩⟩ ∧ Fin3 R C (mxC C xs) s ∧ SmP R C (mxC C s.1) f := by
  cases hm : isMat r c xs with
  | false => rw [smR_no hm] at h; cases h
  | true =>
    obtain ⟨⟨r0, r1⟩, ⟨c0, c1⟩, hl, hn⟩ := isMat_says hm
    obtain ⟨R, rfl⟩ := Int.eq_ofNat_of_zero_le r0
    obtain ⟨C, rfl⟩ := Int.eq_ofNat_of_zero_le c0
    have hl : xs.length = R * C := by rw [← Int.natCast_mul] at hl; omega
    have e : smR R C xs = SR.of R C (smX R C xs) := by unfold smR; rw [if_pos hm]; rfl
    rw [e] at h ⊢
    cases hx : smX R C xs with
    | none => rw [hx] at h; cases h
    | some s =>
      obtain ⟨h1, f, h2⟩ := smX_says hl hn hx
      exact ⟨R, C, s, f, rfl, rfl, by omega, by omega, rfl, hl, hn, (by first | exact hx | rfl), rfl, h1, h2⟩
end Go.Proofs.Ytpelnfenfeoeeaa
end
