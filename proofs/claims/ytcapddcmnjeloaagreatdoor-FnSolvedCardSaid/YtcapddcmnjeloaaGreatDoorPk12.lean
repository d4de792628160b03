/-
  Texts of this seat, joined: ZBSumMath · ZBModM · ZBDet1 · ZBDet2 · ZBModD · ZBSolM · ZBRatMath · ZBRatOpM · ZBChiM · ZBMatMath · ZBSolR · ZBBlk · ZBInts · ZBNumIs · ZBLawInts · ZBMatS · ZBFrB · ZBStp
-/
import Derived.WalkKit
import Derived.OneCell
import Derived.WalkSmall
import Derived.Maps.AppendAt
import Derived.Lib.Hide
import Derived.Test.YtcapddcmnjeloaaGreatDoorRows
import Derived.Deep.OwnRows
import Derived.KernelRfl
import Derived.BigQuiet
import Derived.Deep.QuietTactic
import Derived.Deep.LoopGhost
import Derived.OwnWalk
import Derived.Deep.RegionHeld3

section
/-
  Plain mathematics: finite sums. Nothing of a program is used.
-/
namespace Go.Proofs.YtcapddcmnjeloaaGreatDoor
def sumN : Nat → (Nat → Int) → Int
  | 0, _ => 0
  | n + 1, f => sumN n f + f n
theorem sumN_congr {n : Nat} {f g : Nat → Int} (h : ∀ k : Nat, k < n → f k = g k) : sumN n f = sumN n g := by
  induction n with
  | zero => rfl
  | succ n ih =>
    show sumN n f + f n = sumN n g + g n
    rw [ih (fun k hk => h k (by omega)), h n (by omega)]
theorem sumN_add (n : Nat) (f g : Nat → Int) : sumN n (fun k => f k + g k) = sumN n f + sumN n g := by
  induction n with
  | zero => rfl
  | succ n ih =>
    show sumN n (fun k => f k + g k) + (f n + g n) = (sumN n f + f n) + (sumN n g + g n)
    rw [ih]; omega
theorem sumN_mul (n : Nat) (f : Nat → Int) (z : Int) : sumN n f * z = sumN n (fun k => f k * z) := by
  induction n with
  | zero => exact Int.zero_mul z
  | succ n ih =>
    show (sumN n f + f n) * z = sumN n (fun k => f k * z) + f n * z
    rw [Int.add_mul, ih]
theorem sumN_mul_left (n : Nat) (f : Nat → Int) (z : Int) : z * sumN n f = sumN n (fun k => z * f k) := by
  rw [Int.mul_comm, sumN_mul]
  exact sumN_congr fun k _ => Int.mul_comm _ _
theorem sumN_zero (n : Nat) : sumN n (fun _ => 0) = 0 := by
  induction n with
  | zero => rfl
  | succ n ih => show sumN n (fun _ => 0) + 0 = 0; rw [ih]; rfl
theorem sumN_swap (m n : Nat) (f : Nat → Nat → Int) : sumN m (fun i => sumN n (fun j => f i j)) = sumN n (fun j => sumN m (fun i => f i j)) := by
  induction m with
  | zero => exact (sumN_zero n).symm
  | succ m ih =>
    show sumN m (fun i => sumN n (fun j => f i j)) + sumN n (fun j => f m j) = sumN n (fun j => sumN m (fun i => f i j) + f m j)
    rw [ih, sumN_add]
end Go.Proofs.YtcapddcmnjeloaaGreatDoor
end

section
/-
  Plain mathematics of chapter 8: residues. Nothing of a program is used.
-/
namespace Go.Proofs.YtcapddcmnjeloaaGreatDoor
def Cg (p a b : Int) : Prop := p ∣ a - b
theorem Cg.refl (p a : Int) : Cg p a a := ⟨0, by omega⟩
theorem Cg.of_eq {p a b : Int} (h : a = b) : Cg p a b := h ▸ Cg.refl p a
theorem Cg.symm {p a b : Int} (h : Cg p a b) : Cg p b a := by
  obtain ⟨k, hk⟩ := h
  exact ⟨-k, by rw [Int.mul_neg, ← hk]; omega⟩
theorem Cg.trans {p a b c : Int} (h : Cg p a b) (h' : Cg p b c) : Cg p a c := by
  obtain ⟨k, hk⟩ := h
  obtain ⟨l, hl⟩ := h'
  exact ⟨k + l, by rw [Int.mul_add, ← hk, ← hl]; omega⟩
theorem Cg.add {p a b c d : Int} (h : Cg p a b) (h' : Cg p c d) : Cg p (a + c) (b + d) := by
  obtain ⟨k, hk⟩ := h
  obtain ⟨l, hl⟩ := h'
  exact ⟨k + l, by rw [Int.mul_add, ← hk, ← hl]; omega⟩
theorem Cg.neg {p a b : Int} (h : Cg p a b) : Cg p (-a) (-b) := by
  obtain ⟨k, hk⟩ := h
  exact ⟨-k, by rw [Int.mul_neg, ← hk]; omega⟩
theorem Cg.sub {p a b c d : Int} (h : Cg p a b) (h' : Cg p c d) : Cg p (a - c) (b - d) := by
  obtain ⟨k, hk⟩ := h
  obtain ⟨l, hl⟩ := h'
  exact ⟨k - l, by rw [Int.mul_sub, ← hk, ← hl]; omega⟩
theorem Cg.mul {p a b c d : Int} (h : Cg p a b) (h' : Cg p c d) : Cg p (a * c) (b * d) := by
  obtain ⟨k, hk⟩ := h
  obtain ⟨l, hl⟩ := h'
  refine ⟨k * c + b * l, ?_⟩
  have e1 : a = b + p * k := by omega
  have e2 : c = d + p * l := by omega
  rw [e1, e2]
  grind
theorem Cg.mul_left {p a b : Int} (x : Int) (h : Cg p a b) : Cg p (x * a) (x * b) := (Cg.refl p x).mul h
theorem Cg.emod (p a : Int) : Cg p (a % p) a := ⟨-(a / p), by rw [Int.emod_def, Int.mul_neg]; omega⟩
theorem Cg.eq {p a b : Int} (ha : 0 ≤ a ∧ a < p) (hb : 0 ≤ b ∧ b < p) (h : Cg p a b) : a = b := by
  obtain ⟨k, hk⟩ := h
  have hp : 0 < p := by omega
  have h1 : a - b < p := by omega
  have h2 : -p < a - b := by omega
  rw [hk] at h1 h2
  have h3 : k < 1 := Int.lt_of_mul_lt_mul_left (a := p) (by rw [Int.mul_one]; exact h1) (by omega)
  have h4 : -1 < k := Int.lt_of_mul_lt_mul_left (a := p) (by rw [Int.mul_neg, Int.mul_one]; exact h2) (by omega)
  obtain rfl : k = 0 := by omega
  rw [Int.mul_zero] at hk
  omega
theorem Cg.zero {p a : Int} : Cg p a 0 ↔ p ∣ a := by unfold Cg; rw [Int.sub_zero]
theorem Cg.of_emod {p a b : Int} (h : a % p = b % p) : Cg p a b := ((Cg.emod p a).symm.trans (Cg.of_eq h)).trans (Cg.emod p b)
theorem Cg.emod_eq {p a b : Int} (hp : 0 < p) (h : Cg p a b) : a % p = b % p :=
  Cg.eq ⟨Int.emod_nonneg _ (by omega), Int.emod_lt_of_pos _ hp⟩ ⟨Int.emod_nonneg _ (by omega), Int.emod_lt_of_pos _ hp⟩ (((Cg.emod p a).trans h).trans (Cg.emod p b).symm)
theorem Cg.sum {p : Int} {n : Nat} {f g : Nat → Int} (h : ∀ i, i < n → Cg p (f i) (g i)) : Cg p (sumN n f) (sumN n g) := by
  induction n with
  | zero => exact Cg.refl _ _
  | succ n ih => exact (ih fun i hi => h i (by omega)).add (h n (by omega))
def Prm (p : Int) : Prop := 2 ≤ p ∧ ∀ d : Int, 2 ≤ d → d * d ≤ p → ¬ d ∣ p
theorem Prm.div {p d : Int} (h : Prm p) (hd : 0 < d) (h1 : d ∣ p) : d = 1 ∨ d = p := by
  obtain ⟨e, he⟩ := h1
  obtain ⟨h2, h3⟩ := h
  have e0 : 0 < e := by
    have : 0 < d * e := by omega
    exact Int.pos_of_mul_pos_right this hd
  by_cases d1 : d = 1
  · exact .inl d1
  · by_cases e1 : e = 1
    · rw [e1, Int.mul_one] at he; exact .inr he.symm
    · exfalso
      rcases Int.lt_or_le e d with hl | hl
      · refine h3 e (by omega) ?_ ⟨d, by rw [he, Int.mul_comm]⟩
        rw [he]
        exact Int.mul_le_mul_of_nonneg_right (by omega) (by omega)
      · refine h3 d (by omega) ?_ ⟨e, he⟩
        rw [he]
        exact Int.mul_le_mul_of_nonneg_left hl (by omega)
theorem Prm.gcd {p a : Int} (h : Prm p) (ha : ¬ p ∣ a) : (a.gcd p : Int) = 1 := by
  have h0 : 0 < (a.gcd p : Int) := by
    have := Int.gcd_pos_of_ne_zero_right a (show p ≠ 0 by have := h.1; omega)
    omega
  rcases h.div h0 (Int.gcd_dvd_right ..) with e | e
  · exact e
  · exact absurd (by have := Int.gcd_dvd_left a p; rw [e] at this; exact this) ha
theorem Prm.mul {p a b : Int} (h : Prm p) (hd : p ∣ a * b) : p ∣ a ∨ p ∣ b := by
  by_cases ha : p ∣ a
  · exact .inl ha
  · right
    have hg := h.gcd ha
    have hc : Nat.Coprime p.natAbs a.natAbs := by
      unfold Nat.Coprime
      rw [Nat.gcd_comm]
      have : a.gcd p = Nat.gcd a.natAbs p.natAbs := rfl
      omega
    have h1 : p.natAbs ∣ a.natAbs * b.natAbs := by
      rw [← Int.natAbs_mul]
      exact Int.natAbs_dvd_natAbs.mpr hd
    exact Int.natAbs_dvd_natAbs.mp (hc.dvd_of_dvd_mul_left h1)
theorem Prm.cancel {p a x y : Int} (h : Prm p) (ha : ¬ p ∣ a) (hc : Cg p (a * x) (a * y)) : Cg p x y := by
  have h1 : p ∣ a * (x - y) := by rw [Int.mul_sub]; exact hc
  exact (h.mul h1).resolve_left ha
theorem Prm.one {p : Int} (h : Prm p) : ¬ p ∣ 1 := fun hd => by
  have := Int.le_of_dvd (by decide) hd
  have := h.1
  omega
def InvP (p a x : Int) : Prop := Cg p (a * x) 1
theorem InvP.ne {p a x : Int} (hp : Prm p) (h : InvP p a x) : ¬ p ∣ a := fun hd => by
  refine hp.one ?_
  have h1 : Cg p (a * x) 0 := Cg.zero.mpr (Int.dvd_trans hd (Int.dvd_mul_right _ _))
  exact Cg.zero.mp (h.symm.trans h1)
theorem InvP.uniq {p a x y : Int} (hp : Prm p) (h : InvP p a x) (h' : InvP p a y) : Cg p x y := hp.cancel (h.ne hp) (h.trans h'.symm)
end Go.Proofs.YtcapddcmnjeloaaGreatDoor
end

section
/-
  Determinants: expansion along the first column; linear in each row; 0 where two rows are equal. Plain mathematics: nothing of a program is used.
-/
namespace Go.Proofs.YtcapddcmnjeloaaGreatDoor
theorem sumN_first (n : Nat) (f : Nat → Int) : sumN (n + 1) f = f 0 + sumN n (fun i => f (i + 1)) := by
  induction n with
  | zero => show 0 + f 0 = f 0 + 0; omega
  | succ n ih =>
    show sumN (n + 1) f + f (n + 1) = f 0 + (sumN n (fun i => f (i + 1)) + f (n + 1))
    rw [ih]; omega
theorem sumN_all_zero {n : Nat} {f : Nat → Int} (h : ∀ k, k < n → f k = 0) : sumN n f = 0 := by
  rw [sumN_congr h]; exact sumN_zero n
theorem sumN_one {n a : Nat} {f : Nat → Int} (ha : a < n) (h : ∀ k, k < n → k ≠ a → f k = 0) : sumN n f = f a := by
  induction n with
  | zero => omega
  | succ n ih =>
    show sumN n f + f n = f a
    rcases Nat.lt_or_ge a n with h1 | h1
    · rw [ih h1 (fun k hk hne => h k (by omega) hne), h n (by omega) (by omega)]; omega
    · obtain rfl : a = n := by omega
      rw [sumN_all_zero (fun k hk => h k (by omega) (by omega))]; omega
theorem sumN_two {n a b : Nat} {f : Nat → Int} (ha : a < b) (hb : b < n) (h : ∀ k, k < n → k ≠ a → k ≠ b → f k = 0) : sumN n f = f a + f b := by
  have e : sumN n f = sumN n (fun k => (if k = a then f a else 0) + (if k = b then f b else 0)) := by
    refine sumN_congr fun k hk => ?_
    by_cases h1 : k = a
    · subst h1; rw [if_pos rfl, if_neg (by omega)]; omega
    · by_cases h2 : k = b
      · subst h2; rw [if_neg h1, if_pos rfl]; omega
      · rw [if_neg h1, if_neg h2, h k hk h1 h2]; rfl
  rw [e, sumN_add, sumN_one (a := a) (by omega) (fun k _ hk => if_neg hk), sumN_one (a := b) hb (fun k _ hk => if_neg hk), if_pos rfl, if_pos rfl]
def sg (k : Nat) : Int := if k % 2 = 0 then 1 else -1
theorem sg_zero : sg 0 = 1 := rfl
theorem sg_succ (k : Nat) : sg (k + 1) = -sg k := by
  unfold sg
  by_cases h : k % 2 = 0
  · rw [if_pos h, if_neg (by omega)]
  · rw [if_neg h, if_pos (by omega)]; rfl
theorem sg_add (a b : Nat) : sg (a + b) = sg a * sg b := by
  induction b with
  | zero => rw [Nat.add_zero, sg_zero, Int.mul_one]
  | succ b ih => rw [← Nat.add_assoc, sg_succ, sg_succ, ih, Int.mul_neg]
theorem sg_sq (a : Nat) : sg a * sg a = 1 := by
  unfold sg
  split <;> rfl
def skp (j k : Nat) : Nat := if k < j then k else k + 1
def unskp (j k : Nat) : Nat := if k < j then k else k - 1
theorem skp_ne (j k : Nat) : skp j k ≠ j := by unfold skp; split <;> omega
theorem skp_lt {j k n : Nat} (h : k < n) : skp j k < n + 1 := by unfold skp; split <;> omega
theorem skp_unskp {j k : Nat} (h : k ≠ j) : skp j (unskp j k) = k := by
  unfold skp unskp
  by_cases h1 : k < j
  · rw [if_pos h1, if_pos h1]
  · rw [if_neg h1, if_neg (by omega)]; omega
theorem unskp_skp (j k : Nat) : unskp j (skp j k) = k := by
  unfold skp unskp
  by_cases h1 : k < j
  · rw [if_pos h1, if_pos h1]
  · rw [if_neg h1, if_neg (by omega)]; omega
theorem unskp_lt {j k n : Nat} (h : k ≠ j) (hk : k < n + 1) (hj : j < n + 1) : unskp j k < n := by unfold unskp; split <;> omega
theorem skp_zero (k : Nat) : skp 0 k = k + 1 := by unfold skp; rw [if_neg (by omega)]
theorem skp_succ (j k : Nat) : skp (j + 1) (k + 1) = skp j k + 1 := by
  unfold skp
  by_cases h : k < j
  · rw [if_pos h, if_pos (by omega)]
  · rw [if_neg h, if_neg (by omega)]
theorem skp_first (j : Nat) (h : 0 < j) : skp j 0 = 0 := by unfold skp; rw [if_pos h]
abbrev Mx : Type := Nat → Nat → Int
def EqX (n : Nat) (A B : Mx) : Prop := ∀ r c, r < n → c < n → A r c = B r c
def mnr (A : Mx) (i j : Nat) : Mx := fun r c => A (skp i r) (skp j c)
def stR (A : Mx) (r : Nat) (v : Nat → Int) : Mx := fun i j => if i = r then v j else A i j
theorem stR_at (A : Mx) (r : Nat) (v : Nat → Int) (c : Nat) : stR A r v r c = v c := if_pos rfl
theorem stR_ne (A : Mx) (r i : Nat) (v : Nat → Int) (c : Nat) (h : i ≠ r) : stR A r v i c = A i c := if_neg h
theorem stR_self (A : Mx) (r : Nat) : stR A r (A r) = A := by
  funext i j
  unfold stR
  split
  · rename_i h; rw [h]
  · rfl
theorem EqX.mnr {n i j : Nat} {A B : Mx} (h : EqX (n + 1) A B) : EqX n (mnr A i j) (mnr B i j) := fun _ _ hr hc => h _ _ (skp_lt hr) (skp_lt hc)
def det : Nat → Mx → Int
  | 0, _ => 1
  | n + 1, A => sumN (n + 1) fun i => sg i * A i 0 * det n (mnr A i 0)
theorem det_succ (n : Nat) (A : Mx) : det (n + 1) A = sumN (n + 1) fun i => sg i * A i 0 * det n (mnr A i 0) := rfl
theorem det_congr {n : Nat} {A B : Mx} (h : EqX n A B) : det n A = det n B := by
  induction n generalizing A B with
  | zero => rfl
  | succ n ih =>
    rw [det_succ, det_succ]
    refine sumN_congr fun i hi => ?_
    rw [h i 0 hi (by omega), ih h.mnr]
theorem mnr_stR_same (A : Mx) (r j : Nat) (v : Nat → Int) : mnr (stR A r v) r j = mnr A r j := by
  funext i c
  exact stR_ne A r _ v _ (skp_ne r i)
theorem mnr_stR (A : Mx) (i r j : Nat) (v : Nat → Int) (h : r ≠ i) : mnr (stR A r v) i j = stR (mnr A i j) (unskp i r) (fun c => v (skp j c)) := by
  funext k c
  show (if skp i k = r then v (skp j c) else A (skp i k) (skp j c)) = if k = unskp i r then v (skp j c) else A (skp i k) (skp j c)
  by_cases e : k = unskp i r
  · rw [if_pos e, if_pos (by rw [e]; exact skp_unskp h)]
  · rw [if_neg e, if_neg (fun e2 => e (by rw [← e2, unskp_skp]))]
def Loc (n : Nat) (f : Mx → Int) : Prop := ∀ A B, EqX n A B → f A = f B
def Lin (n : Nat) (f : Mx → Int) : Prop := ∀ (A : Mx) (r : Nat) (u v : Nat → Int) (x y : Int), r < n → f (stR A r fun c => x * u c + y * v c) = x * f (stR A r u) + y * f (stR A r v)
def AltAt (n r s : Nat) (f : Mx → Int) : Prop := ∀ A, (∀ c, c < n → A r c = A s c) → f A = 0
def Alt (n : Nat) (f : Mx → Int) : Prop := ∀ r s, r < s → s < n → AltAt n r s f
theorem det_loc (n : Nat) : Loc n (det n) := fun _ _ h => det_congr h
theorem det_lin (n : Nat) : Lin n (det n) := by
  induction n with
  | zero => intro A r u v x y hr; omega
  | succ n ih =>
    intro A r u v x y hr
    rw [det_succ, det_succ, det_succ, sumN_mul_left, sumN_mul_left, ← sumN_add]
    refine sumN_congr fun i hi => ?_
    by_cases h : i = r
    · subst h
      rw [stR_at, stR_at, stR_at, mnr_stR_same, mnr_stR_same, mnr_stR_same]
      generalize det n (mnr A i 0) = d
      generalize sg i = s
      grind
    · rw [stR_ne _ _ _ _ _ h, stR_ne _ _ _ _ _ h, stR_ne _ _ _ _ _ h, mnr_stR _ _ _ _ _ (Ne.symm h), mnr_stR _ _ _ _ _ (Ne.symm h), mnr_stR _ _ _ _ _ (Ne.symm h)]
      rw [ih (mnr A i 0) (unskp i r) (fun c => u (skp 0 c)) (fun c => v (skp 0 c)) x y (unskp_lt (Ne.symm h) hr hi)]
      generalize det n (stR (mnr A i 0) (unskp i r) fun c => u (skp 0 c)) = d
      generalize det n (stR (mnr A i 0) (unskp i r) fun c => v (skp 0 c)) = e
      generalize sg i = s
      grind
theorem det_adj (n : Nat) : ∀ r, r + 1 < n → AltAt n r (r + 1) (det n) := by
  induction n with
  | zero => intro r hr; omega
  | succ n ih =>
    intro r hr A hA
    rw [det_succ, sumN_two (a := r) (b := r + 1) (by omega) hr]
    · have e : EqX n (mnr A (r + 1) 0) (mnr A r 0) := fun k c hk hc => by
        show A (skp (r + 1) k) (skp 0 c) = A (skp r k) (skp 0 c)
        by_cases h : k = r
        · subst h
          have e1 : skp (k + 1) k = k := by unfold skp; rw [if_pos (by omega)]
          have e2 : skp k k = k + 1 := by unfold skp; rw [if_neg (by omega)]
          rw [e1, e2]
          exact hA _ (skp_lt hc)
        · have e1 : skp (r + 1) k = skp r k := by
            unfold skp
            by_cases h1 : k < r
            · rw [if_pos h1, if_pos (by omega)]
            · rw [if_neg h1, if_neg (by omega)]
          rw [e1]
      rw [det_congr e, sg_succ, hA 0 (by omega)]
      generalize det n (mnr A r 0) = d
      generalize sg r = s
      grind
    · intro i hi h1 h2
      have hz : det n (mnr A i 0) = 0 := by
        rcases Nat.lt_or_ge i r with h | h
        · refine ih (r - 1) (by omega) _ fun c hc => ?_
          show A (skp i (r - 1)) (skp 0 c) = A (skp i (r - 1 + 1)) (skp 0 c)
          have e1 : skp i (r - 1) = r := by unfold skp; rw [if_neg (by omega)]; omega
          have e2 : skp i (r - 1 + 1) = r + 1 := by unfold skp; rw [if_neg (by omega)]; omega
          rw [e1, e2]
          exact hA _ (skp_lt hc)
        · refine ih r (by omega) _ fun c hc => ?_
          show A (skp i r) (skp 0 c) = A (skp i (r + 1)) (skp 0 c)
          have e1 : skp i r = r := by unfold skp; rw [if_pos (by omega)]
          have e2 : skp i (r + 1) = r + 1 := by unfold skp; rw [if_pos (by omega)]
          rw [e1, e2]
          exact hA _ (skp_lt hc)
      rw [hz, Int.mul_zero]
def swR (A : Mx) (r s : Nat) : Mx := fun i j => if i = r then A s j else if i = s then A r j else A i j
theorem swap_of {n r s : Nat} {f : Mx → Int} (hl : Lin n f) (ha : AltAt n r s f) (hrs : r ≠ s) (hr : r < n) (hs : s < n) (A : Mx) : f (swR A r s) = -f A := by
  have L1 : ∀ (A : Mx) (q : Nat) (u v : Nat → Int), q < n → f (stR A q fun c => u c + v c) = f (stR A q u) + f (stR A q v) := fun A q u v hq => by
    have := hl A q u v 1 1 hq
    simp only [Int.one_mul] at this
    exact this
  have ee : ∀ u : Nat → Int, f (stR (stR A r u) s u) = 0 := fun u => ha _ fun c _ => by
    rw [stR_at, stR_ne _ _ _ _ _ hrs, stR_at]
  have h0 := ee (fun c => A r c + A s c)
  rw [L1 _ s _ _ hs] at h0
  have c1 : ∀ u v : Nat → Int, stR (stR A r u) s v = stR (stR A s v) r u := fun u v => by
    funext i j
    unfold stR
    by_cases h1 : i = s
    · subst h1; rw [if_pos rfl, if_neg (Ne.symm hrs), if_pos rfl]
    · rw [if_neg h1]
      by_cases h2 : i = r
      · rw [if_pos h2, if_pos h2]
      · rw [if_neg h2, if_neg h2, if_neg h1]
  rw [c1, c1, L1 _ r _ _ hr, L1 _ r _ _ hr, ← c1, ← c1, ← c1, ← c1, ee, ee] at h0
  have e1 : stR (stR A r (A r)) s (A s) = A := by rw [stR_self, stR_self]
  have e2 : stR (stR A r (A s)) s (A r) = swR A r s := by
    funext i j
    unfold stR swR
    by_cases h1 : i = s
    · subst h1; rw [if_pos rfl, if_neg (Ne.symm hrs), if_pos rfl]
    · rw [if_neg h1, if_neg h1]
  rw [e1, e2] at h0
  omega
theorem det_alt (n : Nat) : Alt n (det n) := by
  have key : ∀ d r, r + d + 1 < n → AltAt n r (r + d + 1) (det n) := by
    intro d
    induction d with
    | zero => intro r hr; exact det_adj n r hr
    | succ d ih =>
      intro r hr A hA
      have h1 := swap_of (det_lin n) (det_adj n (r + d + 1) hr) (by omega) (by omega) hr A
      have h2 := ih r (by omega) (swR A (r + d + 1) (r + d + 1 + 1)) fun c hc => by
        unfold swR
        rw [if_neg (by omega), if_neg (by omega), if_pos rfl]
        exact hA c hc
      rw [h2] at h1
      omega
  intro r s hrs hs
  obtain ⟨d, rfl⟩ : ∃ d, s = r + d + 1 := ⟨s - r - 1, by omega⟩
  exact key d r hs
theorem alt_at {n r s : Nat} {f : Mx → Int} (ha : Alt n f) (hrs : r ≠ s) (hr : r < n) (hs : s < n) : AltAt n r s f := by
  rcases Nat.lt_or_ge r s with h | h
  · exact ha r s h hs
  · exact fun A hA => ha s r (by omega) hr A fun c hc => (hA c hc).symm
theorem alt_swap {n r s : Nat} {f : Mx → Int} (hl : Lin n f) (ha : Alt n f) (hrs : r ≠ s) (hr : r < n) (hs : s < n) (A : Mx) : f (swR A r s) = -f A :=
  swap_of hl (alt_at ha hrs hr hs) hrs hr hs A
theorem lin_zero {n r : Nat} {f : Mx → Int} (hl : Lin n f) (hr : r < n) (A : Mx) : f (stR A r fun _ => 0) = 0 := by
  have := hl A r (fun _ => 0) (fun _ => 0) 0 0 hr
  simp only [Int.zero_mul, Int.add_zero] at this
  exact this
theorem lin_sum {n r : Nat} {f : Mx → Int} (hl : Lin n f) (hr : r < n) (A : Mx) (m : Nat) (x : Nat → Int) (u : Nat → Nat → Int) :
    f (stR A r fun c => sumN m fun k => x k * u k c) = sumN m fun k => x k * f (stR A r (u k)) := by
  induction m with
  | zero => exact lin_zero hl hr A
  | succ m ih =>
    have := hl A r (fun c => sumN m fun k => x k * u k c) (u m) 1 (x m) hr
    simp only [Int.one_mul] at this
    show f (stR A r fun c => (sumN m fun k => x k * u k c) + x m * u m c) = _
    rw [this, ih]
    rfl
theorem alt_add {n r s : Nat} {f : Mx → Int} (hl : Lin n f) (ha : Alt n f) (hrs : r ≠ s) (hr : r < n) (hs : s < n) (A : Mx) (x : Int) : f (stR A r fun c => A r c + x * A s c) = f A := by
  have := hl A r (A r) (A s) 1 x hr
  simp only [Int.one_mul] at this
  rw [this, stR_self, alt_at ha hrs hr hs (stR A r (A s)) (fun c _ => by rw [stR_at, stR_ne _ _ _ _ _ (Ne.symm hrs)])]
  omega
end Go.Proofs.YtcapddcmnjeloaaGreatDoor
end

section
/-
  Determinants: expansion along any row and column; turned over; of products; the adjugate. Plain mathematics: nothing of a program is used.
-/
namespace Go.Proofs.YtcapddcmnjeloaaGreatDoor
def ej (j c : Nat) : Int := if c = j then 1 else 0
def idX : Mx := fun r c => if r = c then 1 else 0
def trX (A : Mx) : Mx := fun r c => A c r
def mulX (n : Nat) (A B : Mx) : Mx := fun i j => sumN n fun k => A i k * B k j
theorem ej_self (j : Nat) : ej j j = 1 := if_pos rfl
theorem ej_ne {j c : Nat} (h : c ≠ j) : ej j c = 0 := if_neg h
theorem mnr_mnr (A : Mx) (i j : Nat) : mnr (mnr A (i + 1) 0) 0 j = mnr (mnr A 0 (j + 1)) i 0 := by
  funext r c
  show A (skp (i + 1) (skp 0 r)) (skp 0 (skp j c)) = A (skp 0 (skp i r)) (skp (j + 1) (skp 0 c))
  rw [skp_zero, skp_zero, skp_zero, skp_zero, skp_succ, skp_succ]
theorem det_unit (n : Nat) : ∀ (A : Mx) (j : Nat), j < n + 1 → det (n + 1) (stR A 0 (ej j)) = sg j * det n (mnr A 0 j) := by
  induction n with
  | zero =>
    intro A j hj
    obtain rfl : j = 0 := by omega
    rw [det_succ]
    show 0 + sg 0 * stR A 0 (ej 0) 0 0 * 1 = sg 0 * 1
    rw [stR_at, ej_self]
    omega
  | succ n ih =>
    intro A j hj
    rw [det_succ, sumN_first]
    cases j with
    | zero =>
      rw [mnr_stR_same, stR_at, ej_self, sumN_all_zero]
      · rw [Int.add_zero, Int.mul_one]
      · intro i hi
        rw [mnr_stR _ _ _ _ _ (by omega)]
        have e : unskp (i + 1) 0 = 0 := by unfold unskp; rw [if_pos (by omega)]
        have e2 : (fun c => ej 0 (skp 0 c)) = fun _ => 0 := by
          funext c
          exact ej_ne (skp_ne 0 c)
        rw [e, e2, lin_zero (det_lin (n + 1)) (by omega), Int.mul_zero]
    | succ j =>
      rw [stR_at, ej_ne (by omega), Int.mul_zero, Int.zero_mul, Int.zero_add, det_succ, sumN_mul_left]
      refine sumN_congr fun i hi => ?_
      rw [stR_ne _ _ _ _ _ (by omega), mnr_stR _ _ _ _ _ (by omega)]
      have e : unskp (i + 1) 0 = 0 := by unfold unskp; rw [if_pos (by omega)]
      have e2 : (fun c => ej (j + 1) (skp 0 c)) = ej j := by
        funext c
        rw [skp_zero]
        unfold ej
        by_cases h : c = j
        · rw [if_pos h, if_pos (by omega)]
        · rw [if_neg h, if_neg (by omega)]
      rw [e, e2, ih _ j (by omega), mnr_mnr, sg_succ, sg_succ]
      have e3 : mnr A 0 (j + 1) i 0 = A (i + 1) 0 := by
        show A (skp 0 i) (skp (j + 1) 0) = _
        rw [skp_zero, skp_first _ (by omega)]
      rw [e3]
      generalize det n (mnr (mnr A 0 (j + 1)) i 0) = d
      generalize A (i + 1) 0 = a
      generalize sg i = s
      generalize sg j = t
      grind
theorem row_sum (n : Nat) (v : Nat → Int) (c : Nat) (hc : c < n) : v c = sumN n fun k => v k * ej k c := by
  rw [sumN_one (a := c) hc (fun k _ hk => by rw [ej_ne (Ne.symm hk), Int.mul_zero]), ej_self, Int.mul_one]
theorem row_split {n r : Nat} {f : Mx → Int} (hl : Lin n f) (ho : Loc n f) (hr : r < n) (A : Mx) : f A = sumN n fun j => A r j * f (stR A r (ej j)) := by
  rw [← lin_sum hl hr A n (A r) ej]
  refine ho _ _ fun i c hi hc => ?_
  unfold stR
  by_cases h : i = r
  · rw [if_pos h, h]
    exact row_sum n (A r) c hc
  · rw [if_neg h]
theorem det_row (n : Nat) (A : Mx) : det (n + 1) A = sumN (n + 1) fun j => sg j * A 0 j * det n (mnr A 0 j) := by
  rw [row_split (det_lin (n + 1)) (det_loc (n + 1)) (r := 0) (by omega)]
  refine sumN_congr fun j hj => ?_
  rw [det_unit n A j hj]
  generalize det n (mnr A 0 j) = d
  generalize sg j = s
  grind
theorem mnr_trX (A : Mx) (i j : Nat) : mnr (trX A) i j = trX (mnr A j i) := rfl
theorem det_tr (n : Nat) : ∀ A : Mx, det n (trX A) = det n A := by
  induction n with
  | zero => intro A; rfl
  | succ n ih =>
    intro A
    rw [det_succ, det_row]
    refine sumN_congr fun i _ => ?_
    rw [mnr_trX, ih]
    rfl
theorem det_id (n : Nat) : det n idX = 1 := by
  induction n with
  | zero => rfl
  | succ n ih =>
    rw [det_succ, sumN_one (a := 0) (by omega)]
    · have e : mnr idX 0 0 = idX := by
        funext r c
        show (if skp 0 r = skp 0 c then (1 : Int) else 0) = if r = c then 1 else 0
        rw [skp_zero, skp_zero]
        by_cases h : r = c
        · rw [if_pos h, if_pos (by omega)]
        · rw [if_neg h, if_neg (by omega)]
      rw [e, ih]; rfl
    · intro i _ hi
      have : idX i 0 = 0 := if_neg hi
      rw [this, Int.mul_zero, Int.zero_mul]
def insX (j : Nat) (N : Mx) : Mx := fun r c => if r = 0 then ej j c else if c = j then 0 else N (r - 1) (unskp j c)
theorem insX_row (j : Nat) (N : Mx) (r c : Nat) : insX j N (r + 1) c = if c = j then 0 else N r (unskp j c) := rfl
theorem insX_stR (j : Nat) (N : Mx) (r : Nat) (v : Nat → Int) : insX j (stR N r v) = stR (insX j N) (r + 1) (fun c => if c = j then 0 else v (unskp j c)) := by
  funext i c
  cases i with
  | zero =>
    rw [stR_ne _ _ _ _ _ (by omega)]
    rfl
  | succ i =>
    show (if c = j then 0 else stR N r v i (unskp j c)) = if i + 1 = r + 1 then _ else (if c = j then 0 else N i (unskp j c))
    by_cases h : i = r
    · rw [if_pos (show i + 1 = r + 1 by omega), h, stR_at]
    · rw [if_neg (show ¬ i + 1 = r + 1 by omega), stR_ne _ _ _ _ _ h]
theorem insX_loc {n j : Nat} {f : Mx → Int} (hj : j < n + 1) (h : Loc (n + 1) f) : Loc n (fun N => f (insX j N)) := fun A B hAB => h _ _ fun r c hr hc => by
  cases r with
  | zero => rfl
  | succ r =>
    rw [insX_row, insX_row]
    by_cases e : c = j
    · rw [if_pos e, if_pos e]
    · rw [if_neg e, if_neg e]
      exact hAB r _ (by omega) (unskp_lt e hc hj)
theorem insX_lin {n j : Nat} {f : Mx → Int} (h : Lin (n + 1) f) : Lin n (fun N => f (insX j N)) := fun A r u v x y hr => by
  show f (insX j (stR A r _)) = x * f (insX j (stR A r u)) + y * f (insX j (stR A r v))
  rw [insX_stR, insX_stR, insX_stR, ← h (insX j A) (r + 1) _ _ x y (by omega)]
  congr 2
  funext c
  by_cases e : c = j
  · rw [if_pos e, if_pos e, if_pos e]; omega
  · rw [if_neg e, if_neg e, if_neg e]
theorem insX_alt {n j : Nat} {f : Mx → Int} (hj : j < n + 1) (h : Alt (n + 1) f) : Alt n (fun N => f (insX j N)) := fun r s hrs hs A hA => by
  refine h (r + 1) (s + 1) (by omega) (by omega) _ fun c hc => ?_
  rw [insX_row, insX_row]
  by_cases e : c = j
  · rw [if_pos e, if_pos e]
  · rw [if_neg e, if_neg e]
    exact hA _ (unskp_lt e hc hj)
theorem insX_id {n : Nat} {f : Mx → Int} (ho : Loc (n + 1) f) (hl : Lin (n + 1) f) (ha : Alt (n + 1) f) (j : Nat) (hj : j < n + 1) : f (insX j idX) = sg j * f idX := by
  induction j with
  | zero =>
    rw [sg_zero, Int.one_mul]
    refine ho _ _ fun r c _ _ => ?_
    cases r with
    | zero =>
      show ej 0 c = if 0 = c then 1 else 0
      unfold ej
      by_cases h : c = 0
      · rw [if_pos h, if_pos h.symm]
      · rw [if_neg h, if_neg (Ne.symm h)]
    | succ r =>
      rw [insX_row]
      show (if c = 0 then 0 else if r = unskp 0 c then (1 : Int) else 0) = if r + 1 = c then 1 else 0
      unfold unskp
      by_cases h : c = 0
      · rw [if_pos h, if_neg (show ¬ r + 1 = c by omega)]
      · rw [if_neg h, if_neg (show ¬ c < 0 by omega)]
        by_cases h2 : r + 1 = c
        · rw [if_pos h2, if_pos (show r = c - 1 by omega)]
        · rw [if_neg h2, if_neg (show ¬ r = c - 1 by omega)]
  | succ j ih =>
    have e : f (insX (j + 1) idX) = f (swR (insX j idX) 0 (j + 1)) := by
      refine ho _ _ fun r c _ _ => ?_
      cases r with
      | zero =>
        show ej (j + 1) c = if 0 = 0 then insX j idX (j + 1) c else _
        rw [if_pos rfl, insX_row]
        show (if c = j + 1 then (1 : Int) else 0) = if c = j then 0 else if j = unskp j c then 1 else 0
        unfold unskp
        by_cases h : c = j
        · rw [if_pos h, if_neg (show ¬ c = j + 1 by omega)]
        · rw [if_neg h]
          by_cases h2 : c < j
          · rw [if_pos h2, if_neg (show ¬ c = j + 1 by omega), if_neg (show ¬ j = c by omega)]
          · rw [if_neg h2]
            by_cases h3 : c = j + 1
            · rw [if_pos h3, if_pos (show j = c - 1 by omega)]
            · rw [if_neg h3, if_neg (show ¬ j = c - 1 by omega)]
      | succ r =>
        rw [insX_row]
        unfold swR
        rw [if_neg (show ¬ r + 1 = 0 by omega)]
        by_cases hr : r = j
        · subst hr
          rw [if_pos (show r + 1 = r + 1 from rfl)]
          show (if c = r + 1 then (0 : Int) else if r = unskp (r + 1) c then 1 else 0) = ej r c
          unfold unskp ej
          by_cases h : c = r + 1
          · rw [if_pos h, if_neg (show ¬ c = r by omega)]
          · rw [if_neg h]
            by_cases h2 : c < r + 1
            · rw [if_pos h2]
              by_cases h3 : c = r
              · rw [if_pos h3, if_pos h3.symm]
              · rw [if_neg h3, if_neg (Ne.symm h3)]
            · rw [if_neg h2, if_neg (show ¬ r = c - 1 by omega), if_neg (show ¬ c = r by omega)]
        · rw [if_neg (show ¬ r + 1 = j + 1 by omega), insX_row]
          show (if c = j + 1 then (0 : Int) else if r = unskp (j + 1) c then 1 else 0) = if c = j then 0 else if r = unskp j c then 1 else 0
          unfold unskp
          by_cases h : c = j + 1
          · rw [if_pos h, if_neg (show ¬ c = j by omega), if_neg (show ¬ c < j by omega), if_neg (show ¬ r = c - 1 by omega)]
          · rw [if_neg h]
            by_cases h2 : c = j
            · rw [if_pos h2, if_pos (show c < j + 1 by omega), if_neg (show ¬ r = c by omega)]
            · rw [if_neg h2]
              by_cases h3 : c < j
              · rw [if_pos h3, if_pos (show c < j + 1 by omega)]
              · rw [if_neg h3, if_neg (show ¬ c < j + 1 by omega)]
    rw [e, alt_swap hl ha (by omega) (by omega) hj, ih (by omega), sg_succ, Int.neg_mul]
theorem clear_col {n : Nat} {f : Mx → Int} (ho : Loc (n + 1) f) (hl : Lin (n + 1) f) (ha : Alt (n + 1) f) (A : Mx) (j : Nat) : f (stR A 0 (ej j)) = f (insX j (mnr A 0 j)) := by
  have key : ∀ k, k ≤ n → f (stR A 0 (ej j)) = f (fun r c => if r = 0 then ej j c else if r ≤ k ∧ c = j then 0 else A r c) := by
    intro k
    induction k with
    | zero =>
      intro _
      refine ho _ _ fun r c _ _ => ?_
      unfold stR
      by_cases h : r = 0
      · rw [if_pos h, if_pos h]
      · rw [if_neg h, if_neg h, if_neg (by omega)]
    | succ k ih =>
      intro hk
      rw [ih (by omega), ← alt_add hl ha (r := k + 1) (s := 0) (by omega) (by omega) (by omega) _ (-(A (k + 1) j))]
      refine ho _ _ fun r c _ _ => ?_
      unfold stR
      simp only
      by_cases h : r = k + 1
      · subst h
        rw [if_pos rfl, if_neg (show ¬ k + 1 = 0 by omega), if_neg (show ¬ (k + 1 ≤ k ∧ c = j) by omega), if_true, if_neg (show ¬ k + 1 = 0 by omega)]
        unfold ej
        by_cases hc : c = j
        · rw [if_pos hc, if_pos (show k + 1 ≤ k + 1 ∧ c = j from ⟨Nat.le_refl _, hc⟩), hc]; omega
        · rw [if_neg hc, if_neg (show ¬ (k + 1 ≤ k + 1 ∧ c = j) from fun h => hc h.2)]; omega
      · rw [if_neg h]
        by_cases h0 : r = 0
        · rw [if_pos h0, if_pos h0]
        · rw [if_neg h0, if_neg h0]
          by_cases h1 : r ≤ k ∧ c = j
          · rw [if_pos h1, if_pos (show r ≤ k + 1 ∧ c = j from ⟨by omega, h1.2⟩)]
          · rw [if_neg h1, if_neg (show ¬ (r ≤ k + 1 ∧ c = j) from fun h2 => h1 ⟨by omega, h2.2⟩)]
  rw [key n (by omega)]
  refine ho _ _ fun r c hr hc => ?_
  cases r with
  | zero => rfl
  | succ r =>
    rw [insX_row, if_neg (show ¬ r + 1 = 0 by omega)]
    by_cases h : c = j
    · rw [if_pos (show r + 1 ≤ n ∧ c = j from ⟨by omega, h⟩), if_pos h]
    · rw [if_neg (show ¬ (r + 1 ≤ n ∧ c = j) from fun h2 => h h2.2), if_neg h]
      show A (r + 1) c = A (skp 0 r) (skp j (unskp j c))
      rw [skp_zero, skp_unskp h]
theorem det_uniq (n : Nat) : ∀ f : Mx → Int, Loc n f → Lin n f → Alt n f → ∀ A, f A = det n A * f idX := by
  induction n with
  | zero =>
    intro f ho _ _ A
    show f A = 1 * f idX
    rw [Int.one_mul]
    exact ho _ _ fun r c hr _ => by omega
  | succ n ih =>
    intro f ho hl ha A
    rw [row_split hl ho (r := 0) (by omega), det_row, sumN_mul]
    refine sumN_congr fun j hj => ?_
    rw [clear_col ho hl ha A j]
    have this : f (insX j (mnr A 0 j)) = det n (mnr A 0 j) * f (insX j idX) := ih (fun N => f (insX j N)) (insX_loc hj ho) (insX_lin hl) (insX_alt hj ha) (mnr A 0 j)
    rw [this, insX_id ho hl ha j hj]
    generalize det n (mnr A 0 j) = d
    generalize sg j = s
    grind
theorem mulX_stR (n : Nat) (A B : Mx) (r : Nat) (v : Nat → Int) : mulX n (stR A r v) B = stR (mulX n A B) r (fun j => sumN n fun k => v k * B k j) := by
  funext i j
  show (sumN n fun k => stR A r v i k * B k j) = if i = r then _ else sumN n fun k => A i k * B k j
  by_cases h : i = r
  · rw [if_pos h, h]
    exact sumN_congr fun k _ => by rw [stR_at]
  · rw [if_neg h]
    exact sumN_congr fun k _ => by rw [stR_ne _ _ _ _ _ h]
theorem det_mul (n : Nat) (A B : Mx) : det n (mulX n A B) = det n A * det n B := by
  have h : det n (mulX n A B) = det n A * det n (mulX n idX B) := det_uniq n (fun A => det n (mulX n A B))
    (fun A A' h => det_congr fun r c hr _ => sumN_congr fun k hk => by rw [h r k hr hk])
    (fun A r u v x y hr => by
      show det n (mulX n (stR A r _) B) = x * det n (mulX n (stR A r u) B) + y * det n (mulX n (stR A r v) B)
      rw [mulX_stR, mulX_stR, mulX_stR, ← det_lin n _ r _ _ x y hr]
      congr 2
      funext j
      rw [sumN_mul_left, sumN_mul_left, ← sumN_add]
      refine sumN_congr fun k _ => ?_
      grind)
    (fun r s hrs hs A hA => det_alt n r s hrs hs _ fun c _ => sumN_congr fun k hk => by rw [hA k hk]) A
  rw [h]
  congr 1
  refine det_congr fun r c hr _ => ?_
  show (sumN n fun k => (if r = k then (1 : Int) else 0) * B k c) = B r c
  rw [sumN_one (a := r) hr (fun k _ hk => by rw [if_neg (Ne.symm hk), Int.zero_mul]), if_pos rfl, Int.one_mul]
def mvX (i : Nat) (A : Mx) : Mx := fun r c => if r = 0 then A i c else A (skp i (r - 1)) c
theorem det_mv (n : Nat) (A : Mx) (i : Nat) (hi : i < n + 1) : det (n + 1) (mvX i A) = sg i * det (n + 1) A := by
  induction i with
  | zero =>
    rw [sg_zero, Int.one_mul]
    refine det_congr fun r c _ _ => ?_
    unfold mvX
    by_cases h : r = 0
    · rw [if_pos h, h]
    · rw [if_neg h, skp_zero, show r - 1 + 1 = r by omega]
  | succ i ih =>
    have e : det (n + 1) (mvX (i + 1) A) = det (n + 1) (swR (mvX i A) 0 (i + 1)) := by
      refine det_congr fun r c _ _ => ?_
      unfold swR mvX
      by_cases h : r = 0
      · rw [if_pos h, if_pos h, if_neg (by omega)]
        have : skp i (i + 1 - 1) = i + 1 := by unfold skp; rw [if_neg (by omega)]; omega
        rw [this]
      · rw [if_neg h, if_neg h]
        by_cases h2 : r = i + 1
        · rw [if_pos h2, if_pos rfl]
          have : skp (i + 1) (r - 1) = i := by unfold skp; rw [if_pos (by omega)]; omega
          rw [this]
        · rw [if_neg h2, if_neg h]
          have : skp (i + 1) (r - 1) = skp i (r - 1) := by
            unfold skp
            by_cases h3 : r - 1 < i
            · rw [if_pos h3, if_pos (by omega)]
            · rw [if_neg h3, if_neg (by omega)]
          rw [this]
    rw [e, alt_swap (det_lin _) (det_alt _) (by omega) (by omega) hi, ih (by omega), sg_succ, Int.neg_mul]
theorem det_row_at (n : Nat) (A : Mx) (i : Nat) (hi : i < n + 1) : det (n + 1) A = sumN (n + 1) fun j => sg (i + j) * A i j * det n (mnr A i j) := by
  have h := det_mv n A i hi
  rw [det_row] at h
  have h2 : sg i * (sg i * det (n + 1) A) = det (n + 1) A := by rw [← Int.mul_assoc, sg_sq, Int.one_mul]
  rw [← h2, ← h, sumN_mul_left]
  refine sumN_congr fun j _ => ?_
  have e : mnr (mvX i A) 0 j = mnr A i j := by
    funext r c
    show mvX i A (skp 0 r) (skp j c) = A (skp i r) (skp j c)
    rw [skp_zero]
    show (if r + 1 = 0 then _ else A (skp i (r + 1 - 1)) (skp j c)) = _
    rw [if_neg (by omega), Nat.add_sub_cancel]
  have e2 : mvX i A 0 j = A i j := if_pos rfl
  rw [e, e2, sg_add]
  grind
theorem det_row_other (n : Nat) (A : Mx) (i k : Nat) (hi : i < n + 1) (hk : k < n + 1) (hne : i ≠ k) : (sumN (n + 1) fun j => sg (k + j) * A i j * det n (mnr A k j)) = 0 := by
  have h := det_row_at n (stR A k (A i)) k hk
  rw [alt_at (det_alt _) hne hi hk _ (fun c _ => by rw [stR_at, stR_ne _ _ _ _ _ hne])] at h
  rw [h]
  refine sumN_congr fun j _ => ?_
  rw [stR_at, mnr_stR_same]
theorem det_col_at (n : Nat) (A : Mx) (j : Nat) (hj : j < n + 1) : det (n + 1) A = sumN (n + 1) fun i => sg (i + j) * A i j * det n (mnr A i j) := by
  rw [← det_tr, det_row_at n (trX A) j hj]
  refine sumN_congr fun i _ => ?_
  rw [mnr_trX, det_tr, Nat.add_comm j i]
  rfl
theorem det_col_other (n : Nat) (A : Mx) (j k : Nat) (hj : j < n + 1) (hk : k < n + 1) (hne : j ≠ k) : (sumN (n + 1) fun i => sg (i + k) * A i j * det n (mnr A i k)) = 0 := by
  rw [← det_row_other n (trX A) j k hj hk hne]
  refine sumN_congr fun i _ => ?_
  rw [mnr_trX, det_tr, Nat.add_comm k i]
  rfl
def adjX (n : Nat) (A : Mx) : Mx := fun j i => sg (i + j) * det n (mnr A i j)
theorem mul_adj (n : Nat) (A : Mx) (i k : Nat) (hi : i < n + 1) (hk : k < n + 1) : mulX (n + 1) A (adjX n A) i k = if i = k then det (n + 1) A else 0 := by
  show (sumN (n + 1) fun j => A i j * (sg (k + j) * det n (mnr A k j))) = _
  have e : (sumN (n + 1) fun j => A i j * (sg (k + j) * det n (mnr A k j))) = sumN (n + 1) fun j => sg (k + j) * A i j * det n (mnr A k j) := sumN_congr fun j _ => by grind
  rw [e]
  by_cases h : i = k
  · rw [if_pos h, h]; exact (det_row_at n A k hk).symm
  · rw [if_neg h]; exact det_row_other n A i k hi hk h
theorem adj_mul (n : Nat) (A : Mx) (i k : Nat) (hi : i < n + 1) (hk : k < n + 1) : mulX (n + 1) (adjX n A) A i k = if i = k then det (n + 1) A else 0 := by
  show (sumN (n + 1) fun j => sg (j + i) * det n (mnr A j i) * A j k) = _
  have e : (sumN (n + 1) fun j => sg (j + i) * det n (mnr A j i) * A j k) = sumN (n + 1) fun j => sg (j + i) * A j k * det n (mnr A j i) := sumN_congr fun j _ => by grind
  rw [e]
  by_cases h : i = k
  · subst h; rw [if_pos rfl]; exact (det_col_at n A i hi).symm
  · rw [if_neg h]; exact det_col_other n A k i hk hi (Ne.symm h)
end Go.Proofs.YtcapddcmnjeloaaGreatDoor
end

section
/-
  Plain mathematics of chapter 8: determinants over residues. Nothing of a program is used.
-/
namespace Go.Proofs.YtcapddcmnjeloaaGreatDoor
theorem det_cg {p : Int} {n : Nat} {A B : Mx} (h : ∀ i j, i < n → j < n → Cg p (A i j) (B i j)) : Cg p (det n A) (det n B) := by
  induction n generalizing A B with
  | zero => exact Cg.refl _ _
  | succ n ih =>
    rw [det_succ, det_succ]
    exact Cg.sum fun i hi => ((Cg.refl p (sg i)).mul (h i 0 hi (by omega))).mul (ih fun a b ha hb => h _ _ (skp_lt ha) (skp_lt hb))
theorem det_swap {n r s : Nat} (A : Mx) (hr : r < n) (hs : s < n) (h : r ≠ s) : det n (swR A r s) = -det n A := by
  refine swap_of (det_lin n) ?_ h hr hs A
  rcases Nat.lt_or_ge r s with h1 | h1
  · exact det_alt n r s h1 hs
  · exact fun A hA => det_alt n s r (by omega) hr A fun c hc => (hA c hc).symm
theorem det_scale {n t : Nat} (A : Mx) (z : Int) (ht : t < n) : det n (stR A t fun q => z * A t q) = z * det n A := by
  have h := det_lin n A t (A t) (A t) z 0 ht
  rw [stR_self, Int.zero_mul, Int.add_zero] at h
  rw [← h]
  refine congrArg _ ?_
  funext i j
  unfold stR
  split
  · show z * A t j = z * A t j + 0 * A t j
    rw [Int.zero_mul, Int.add_zero]
  · rfl
theorem det_less {n i t : Nat} (A : Mx) (x : Int) (hi : i < n) (ht : t < n) (h : i ≠ t) : det n (stR A i fun q => A i q - x * A t q) = det n A := by
  have h1 := det_lin n A i (A i) (A t) 1 (-x) hi
  have h0 : det n (stR A i (A t)) = 0 := by
    have e : ∀ c, stR A i (A t) i c = stR A i (A t) t c := fun c => by rw [stR_at, stR_ne _ _ _ _ _ (fun e => h e.symm)]
    rcases Nat.lt_or_ge i t with h2 | h2
    · exact det_alt n i t h2 ht _ fun c _ => e c
    · exact det_alt n t i (by omega) hi _ fun c _ => (e c).symm
  rw [stR_self, h0, Int.mul_zero, Int.add_zero, Int.one_mul] at h1
  rw [← h1]
  refine congrArg _ ?_
  funext a b
  unfold stR
  split
  · show A i b - x * A t b = 1 * A i b + -x * A t b
    rw [Int.one_mul, Int.neg_mul]; omega
  · rfl
theorem det_zero_row {p : Int} {n i : Nat} {A : Mx} (hi : i < n) (h : ∀ j, j < n → Cg p (A i j) 0) : Cg p (det n A) 0 := by
  have h1 : Cg p (det n A) (det n (stR A i fun q => 0 * A i q)) := det_cg fun a b ha hb => by
    unfold stR
    by_cases e : a = i
    · rw [if_pos e, e]
      show Cg p (A i b) (0 * A i b)
      rw [Int.zero_mul]; exact h b hb
    · rw [if_neg e]; exact Cg.refl _ _
  rw [det_scale A 0 hi, Int.zero_mul] at h1
  exact h1
theorem mulX_cg {p : Int} {n : Nat} {A B C D : Mx} (h : ∀ i j, i < n → j < n → Cg p (A i j) (B i j)) (h' : ∀ i j, i < n → j < n → Cg p (C i j) (D i j)) : ∀ i j, i < n → j < n → Cg p (mulX n A C i j) (mulX n B D i j) := fun i j hi hj => Cg.sum fun k hk => (h i k hi hk).mul (h' k j hk hj)
def InvX (p : Int) (n : Nat) (M V : Mx) : Prop := ∀ i j, i < n → j < n → Cg p (mulX n V M i j) (idX i j)
theorem InvX.dets {p : Int} {n : Nat} {M V : Mx} (h : InvX p n M V) : Cg p (det n V * det n M) 1 := by
  rw [← det_mul, ← det_id n]
  exact det_cg h
theorem InvX.ne {p : Int} (hp : Prm p) {n : Nat} {M V : Mx} (h : InvX p n M V) : ¬ p ∣ det n M := fun hd =>
  InvP.ne (a := det n M) (x := det n V) hp (by unfold InvP; rw [Int.mul_comm]; exact h.dets) hd
theorem mulX_one {n : Nat} (A : Mx) {i j : Nat} (hj : j < n) : mulX n A idX i j = A i j := by
  show (sumN n fun k => A i k * idX k j) = _
  rw [sumN_one (a := j) hj (fun k _ hne => by unfold idX; rw [if_neg hne, Int.mul_zero])]
  unfold idX
  rw [if_pos rfl, Int.mul_one]
theorem one_mulX {n : Nat} (A : Mx) {i j : Nat} (hi : i < n) : mulX n idX A i j = A i j := by
  show (sumN n fun k => idX i k * A k j) = _
  rw [sumN_one (a := i) hi (fun k _ hne => by unfold idX; rw [if_neg (fun e => hne e.symm), Int.zero_mul])]
  unfold idX
  rw [if_pos rfl, Int.one_mul]
theorem mulX_grp {n : Nat} (A B C : Mx) (i j : Nat) : mulX n (mulX n A B) C i j = mulX n A (mulX n B C) i j := by
  show (sumN n fun k => (sumN n fun l => A i l * B l k) * C k j) = sumN n fun l => A i l * sumN n fun k => B l k * C k j
  have e1 : (sumN n fun k => (sumN n fun l => A i l * B l k) * C k j) = sumN n fun k => sumN n fun l => A i l * B l k * C k j := sumN_congr fun k _ => sumN_mul _ _ _
  rw [e1, sumN_swap]
  refine sumN_congr fun l _ => ?_
  rw [sumN_mul_left]
  exact sumN_congr fun k _ => by rw [Int.mul_assoc]
theorem InvX.both {p : Int} {n : Nat} {M V W : Mx} (h : InvX p n M V) (h' : ∀ i j, i < n → j < n → Cg p (mulX n M W i j) (idX i j)) : ∀ i j, i < n → j < n → Cg p (V i j) (W i j) := fun i j hi hj => by
  have e1 : Cg p (mulX n V (mulX n M W) i j) (V i j) := (mulX_cg (fun a b _ _ => Cg.refl _ _) h' i j hi hj).trans (Cg.of_eq (mulX_one V hj))
  have e2 : Cg p (mulX n (mulX n V M) W i j) (W i j) := (mulX_cg h (fun a b _ _ => Cg.refl _ _) i j hi hj).trans (Cg.of_eq (one_mulX W hi))
  rw [mulX_grp] at e2
  exact e1.symm.trans e2
theorem InvX.right {p : Int} {n : Nat} {M V : Mx} (h : InvX p n M V) : ∀ i j, i < n → j < n → Cg p (mulX n M V i j) (idX i j) := by
  cases n with
  | zero => intro i j hi _; omega
  | succ n =>
    have hw : ∀ i j, i < n + 1 → j < n + 1 → Cg p (mulX (n + 1) M (fun a b => det (n + 1) V * adjX n M a b) i j) (idX i j) := fun i j hi hj => by
      have e : mulX (n + 1) M (fun a b => det (n + 1) V * adjX n M a b) i j = det (n + 1) V * mulX (n + 1) M (adjX n M) i j := by
        show (sumN (n + 1) fun k => M i k * (det (n + 1) V * adjX n M k j)) = det (n + 1) V * sumN (n + 1) fun k => M i k * adjX n M k j
        rw [sumN_mul_left]
        exact sumN_congr fun k _ => by grind
      rw [e, mul_adj n M i j hi hj]
      unfold idX
      by_cases hij : i = j
      · rw [if_pos hij, if_pos hij]; exact h.dets
      · rw [if_neg hij, if_neg hij, Int.mul_zero]; exact Cg.refl _ _
    have hb := h.both hw
    exact fun i j hi hj => (mulX_cg (fun a b _ _ => Cg.refl p (M a b)) hb i j hi hj).trans (hw i j hi hj)
end Go.Proofs.YtcapddcmnjeloaaGreatDoor
end

section
/-
  Plain mathematics of chapter 11: solutions by determinants, that there is only one, and lifting. Nothing of a program is used.
-/
namespace Go.Proofs.YtcapddcmnjeloaaGreatDoor
def rcX (A : Mx) (j : Nat) (b : Nat → Int) : Mx := fun i k => if k = j then b i else A i k
theorem mnr_rcX {A : Mx} {j i : Nat} {b : Nat → Int} : mnr (rcX A j b) i j = mnr A i j := by
  funext r c
  show (if skp j c = j then _ else _) = _
  rw [if_neg (skp_ne j c)]
  rfl
theorem cramer : ∀ {n : Nat} (A : Mx) (b : Nat → Int) {k : Nat}, k < n → (sumN n fun j => A k j * det n (rcX A j b)) = det n A * b k
  | 0, _, _, k, h => by omega
  | n + 1, A, b, k, hk => by
    have e : (sumN (n + 1) fun j => A k j * det (n + 1) (rcX A j b)) = sumN (n + 1) fun j => sumN (n + 1) fun i => A k j * adjX n A j i * b i := by
      refine sumN_congr fun j hj => ?_
      rw [det_col_at n (rcX A j b) j hj, sumN_mul_left]
      refine sumN_congr fun i _ => ?_
      rw [mnr_rcX]
      show A k j * (sg (i + j) * (if j = j then b i else A i j) * det n (mnr A i j)) = A k j * (sg (i + j) * det n (mnr A i j)) * b i
      rw [if_pos rfl]
      grind
    rw [e, sumN_swap]
    have e2 : (sumN (n + 1) fun i => sumN (n + 1) fun j => A k j * adjX n A j i * b i) = sumN (n + 1) fun i => (if k = i then det (n + 1) A else 0) * b i := by
      refine sumN_congr fun i hi => ?_
      rw [← sumN_mul, ← mul_adj n A k i hk hi]
      rfl
    rw [e2, sumN_one (a := k) hk (fun i _ hne => by rw [if_neg (fun e => hne e.symm), Int.zero_mul]), if_pos rfl]
theorem ker_zero : ∀ {n : Nat} (A : Mx) (z : Nat → Int), det n A ≠ 0 → (∀ i, i < n → (sumN n fun j => A i j * z j) = 0) → ∀ j, j < n → z j = 0
  | 0, _, _, _, _, j, hj => by omega
  | n + 1, A, z, hd, h, j, hj => by
    have e : (sumN (n + 1) fun i => adjX n A j i * sumN (n + 1) fun k => A i k * z k) = det (n + 1) A * z j := by
      have e1 : (sumN (n + 1) fun i => adjX n A j i * sumN (n + 1) fun k => A i k * z k) = sumN (n + 1) fun i => sumN (n + 1) fun k => adjX n A j i * A i k * z k := by
        refine sumN_congr fun i _ => ?_
        rw [sumN_mul_left]
        exact sumN_congr fun k _ => (Int.mul_assoc _ _ _).symm
      rw [e1, sumN_swap]
      have e2 : (sumN (n + 1) fun k => sumN (n + 1) fun i => adjX n A j i * A i k * z k) = sumN (n + 1) fun k => (if j = k then det (n + 1) A else 0) * z k := by
        refine sumN_congr fun k hk => ?_
        rw [← sumN_mul, ← adj_mul n A j k hj hk]
        rfl
      rw [e2, sumN_one (a := j) hj (fun i _ hne => by rw [if_neg (fun e => hne e.symm), Int.zero_mul]), if_pos rfl]
    rw [sumN_all_zero (fun i hi => by rw [h i hi, Int.mul_zero])] at e
    rcases Int.mul_eq_zero.mp e.symm with h1 | h1
    · exact absurd h1 hd
    · exact h1
theorem sol_uniq {n : Nat} {A : Mx} {b x y : Nat → Int} {s t : Int} (hd : det n A ≠ 0) (hx : ∀ i, i < n → (sumN n fun j => A i j * x j) = s * b i) (hy : ∀ i, i < n → (sumN n fun j => A i j * y j) = t * b i) : ∀ j, j < n → t * x j = s * y j := fun j hj => by
  have := ker_zero A (fun j => t * x j - s * y j) hd (fun i hi => by
    have e : (sumN n fun j => A i j * (t * x j - s * y j)) = t * (sumN n fun j => A i j * x j) + (-s) * sumN n fun j => A i j * y j := by
      rw [sumN_mul_left, sumN_mul_left, ← sumN_add]
      exact sumN_congr fun k _ => by grind
    rw [e, hx i hi, hy i hi]
    grind) j hj
  omega
structure LInv (n : Nat) (M : Mx) (b x rest : Nat → Int) (P : Int) : Prop where
  sum : ∀ i, i < n → (sumN n fun j => M i j * x j) + P * rest i = b i
  can : ∀ j, j < n → 0 ≤ x j ∧ x j < P
theorem LInv.start {n : Nat} {M : Mx} {b : Nat → Int} : LInv n M b (fun _ => 0) b 1 where
  sum := fun i _ => by rw [sumN_all_zero (fun k _ => Int.mul_zero _)]; omega
  can := fun _ _ => by decide
theorem LInv.step {n : Nat} {M : Mx} {b x rest dg r' : Nat → Int} {P p : Int} (h : LInv n M b x rest P) (hP : 0 < P) (hd : ∀ j, j < n → 0 ≤ dg j ∧ dg j < p) (hr : ∀ i, i < n → (rest i - sumN n fun j => M i j * dg j) = p * r' i) : LInv n M b (fun j => x j + P * dg j) r' (P * p) where
  sum := fun i hi => by
    have e : (sumN n fun j => M i j * (x j + P * dg j)) = (sumN n fun j => M i j * x j) + P * sumN n fun j => M i j * dg j := by
      rw [sumN_mul_left, ← sumN_add]
      exact sumN_congr fun k _ => by grind
    have h1 := h.sum i hi
    have h2 := hr i hi
    rw [e, Int.mul_assoc, ← h2, Int.mul_sub]
    omega
  can := fun j hj => by
    have h1 := h.can j hj
    have h2 := hd j hj
    have h3 := Int.mul_nonneg (Int.le_of_lt hP) h2.1
    have h4 := Int.mul_le_mul_of_nonneg_left (show dg j + 1 ≤ p by omega) (Int.le_of_lt hP)
    rw [Int.mul_add, Int.mul_one] at h4
    exact ⟨by omega, by omega⟩
theorem dig_dvd {n : Nat} {M V : Mx} {p : Int} {rest dg : Nat → Int} (h : InvX p n M V) (hd : ∀ j, j < n → Cg p (dg j) (sumN n fun k => V j k * rest k)) {i : Nat} (hi : i < n) : p ∣ rest i - sumN n fun j => M i j * dg j := by
  have h1 : Cg p (sumN n fun j => M i j * dg j) (sumN n fun j => sumN n fun k => M i j * V j k * rest k) := by
    refine Cg.sum fun j hj => ?_
    refine ((Cg.refl p _).mul (hd j hj)).trans (Cg.of_eq ?_)
    rw [sumN_mul_left]
    exact sumN_congr fun k _ => (Int.mul_assoc _ _ _).symm
  rw [sumN_swap] at h1
  have h2 : Cg p (sumN n fun k => sumN n fun j => M i j * V j k * rest k) (sumN n fun k => idX i k * rest k) := by
    refine Cg.sum fun k hk => ?_
    refine (Cg.of_eq ?_).trans ((h.right i k hi hk).mul (Cg.refl p (rest k)))
    unfold mulX
    rw [← sumN_mul]
  have h3 : (sumN n fun k => idX i k * rest k) = rest i := by
    rw [sumN_one (a := i) hi (fun k _ hne => by unfold idX; rw [if_neg (fun e => hne e.symm), Int.zero_mul])]
    unfold idX
    rw [if_pos rfl, Int.one_mul]
  rw [h3] at h2
  exact (h1.trans h2).symm
end Go.Proofs.YtcapddcmnjeloaaGreatDoor
end

section
/-
  Plain mathematics of chapter 2: lowest terms. Nothing of a program is imported.
-/
namespace Go.Proofs.YtcapddcmnjeloaaGreatDoor
def IsRatP (n d : Int) : Prop := 1 ≤ d ∧ d ≤ 400000000 ∧ -400000000 ≤ n ∧ n ≤ 400000000 ∧ Int.gcd n d = 1
instance (n d : Int) : Decidable (IsRatP n d) := by unfold IsRatP; exact inferInstance
def isRat (n d : Int) : Bool := decide (IsRatP n d)
def lowN (n d : Int) : Int := if d < 0 then -(n.tdiv (Int.gcd n d)) else n.tdiv (Int.gcd n d)
def lowD (n d : Int) : Int := if d < 0 then -(d.tdiv (Int.gcd n d)) else d.tdiv (Int.gcd n d)
def Fits (p q : Int) : Prop := -400000000 ≤ p ∧ p ≤ 400000000 ∧ -400000000 ≤ q ∧ q ≤ 400000000
instance (n d : Int) : Decidable (Fits n d) := by unfold Fits; exact inferInstance
def low (n d : Int) : Int × Int := if d = 0 then (0, 0) else if Fits (lowN n d) (lowD n d) then (lowN n d, lowD n d) else (0, 0)
theorem gcd_pos_of (n d : Int) (hd : d ≠ 0) : 0 < Int.gcd n d := by
  rcases Nat.eq_zero_or_pos (Int.gcd n d) with hz | hz
  · exact absurd (Int.gcd_eq_zero_iff.1 hz).2 hd
  · exact hz
theorem parts (n d : Int) (hd : d ≠ 0) : ∃ p q k : Int, 0 < q ∧ k ≠ 0 ∧ n = p * k ∧ d = q * k ∧ Int.gcd p q = 1 ∧ lowN n d = p ∧ lowD n d = q ∧ (Int.gcd n d : Int) = k.natAbs ∧ (d < 0 ↔ k < 0) := by
  have hg := gcd_pos_of n d hd
  have eN : lowN n d = if d < 0 then -(n.tdiv (Int.gcd n d)) else n.tdiv (Int.gcd n d) := rfl
  have eD : lowD n d = if d < 0 then -(d.tdiv (Int.gcd n d)) else d.tdiv (Int.gcd n d) := rfl
  obtain ⟨a, ha⟩ := Int.gcd_dvd_left (a := n) (b := d)
  obtain ⟨b, hb⟩ := Int.gcd_dvd_right (a := n) (b := d)
  rw [eN, eD]
  clear eN eD
  obtain ⟨g, hG⟩ : ∃ g, Int.gcd n d = g := ⟨_, rfl⟩
  rw [hG] at hg ha hb ⊢
  have hc : Int.gcd a b = 1 := by
    have e : Int.gcd ((g : Int) * a) ((g : Int) * b) = g := by rw [← ha, ← hb]; exact hG
    rw [Int.gcd_mul_left] at e
    have e : g * Int.gcd a b = g * 1 := by simpa using e
    exact Nat.eq_of_mul_eq_mul_left hg e
  have hgi : (g : Int) ≠ 0 := by omega
  have t1 : n.tdiv g = a := by rw [ha]; exact Int.mul_tdiv_cancel_left a hgi
  have t2 : d.tdiv g = b := by rw [hb]; exact Int.mul_tdiv_cancel_left b hgi
  rw [t1, t2]
  by_cases hs : d < 0
  · have hb0 : b < 0 := by
      rcases Int.lt_or_le b 0 with h | h
      · exact h
      · have := Int.mul_nonneg (show (0 : Int) ≤ (g : Int) by omega) h; omega
    rw [if_pos hs, if_pos hs]
    exact ⟨-a, -b, -(g : Int), by omega, by omega, by rw [Int.neg_mul_neg, Int.mul_comm]; exact ha, by rw [Int.neg_mul_neg, Int.mul_comm]; exact hb, by rw [Int.neg_gcd, Int.gcd_neg]; exact hc, rfl, rfl, by omega, by omega⟩
  · have hb0 : 0 < b := by
      rcases Int.lt_or_le 0 b with h | h
      · exact h
      · have := Int.mul_nonpos_of_nonneg_of_nonpos (show (0 : Int) ≤ (g : Int) by omega) h; omega
    rw [if_neg hs, if_neg hs]
    exact ⟨a, b, (g : Int), by omega, by omega, by rw [Int.mul_comm]; exact ha, by rw [Int.mul_comm]; exact hb, hc, rfl, rfl, by omega, by omega⟩
theorem dvd_of_coprime {a b c : Int} (h : a ∣ b * c) (hg : Int.gcd a b = 1) : a ∣ c := by
  rw [← Int.natAbs_dvd_natAbs] at h ⊢
  rw [Int.natAbs_mul] at h
  rw [Int.gcd_eq_natAbs_gcd_natAbs] at hg
  exact Nat.Coprime.dvd_of_dvd_mul_left hg h
theorem natAbs_mul_le (p k : Int) (hk : k ≠ 0) : p.natAbs ≤ (p * k).natAbs := by
  rw [Int.natAbs_mul]; exact Nat.le_mul_of_pos_right _ (by omega)
theorem low_bd (n d : Int) (hd : d ≠ 0) : (lowN n d).natAbs ≤ n.natAbs ∧ 1 ≤ lowD n d ∧ (lowD n d).natAbs ≤ d.natAbs ∧ Int.gcd (lowN n d) (lowD n d) = 1 := by
  obtain ⟨p, q, k, hq, hk, hn, hd', hg, e1, e2, _, _⟩ := parts n d hd
  rw [e1, e2]
  refine ⟨by rw [hn]; exact natAbs_mul_le p k hk, by omega, by rw [hd']; exact natAbs_mul_le q k hk, hg⟩
theorem low_fits {n d : Int} (hd : d ≠ 0) (h : Fits (lowN n d) (lowD n d)) : low n d = (lowN n d, lowD n d) ∧ IsRatP (lowN n d) (lowD n d) := by
  obtain ⟨_, b, _, g⟩ := low_bd n d hd
  unfold low
  rw [if_neg hd, if_pos h]
  exact ⟨rfl, b, h.2.2.2, h.1, h.2.1, g⟩
theorem low_none {n d : Int} (h : ¬ Fits (lowN n d) (lowD n d)) : low n d = (0, 0) := by
  unfold low; rw [if_neg h]; split <;> rfl
theorem low_zero (n : Int) : low n 0 = (0, 0) := by simp [low]
theorem not_isRat_zero : ¬ IsRatP 0 0 := by unfold IsRatP; omega
theorem isRat_of_fits {n d : Int} (hd : d ≠ 0) : isRat (lowN n d) (lowD n d) = decide (Fits (lowN n d) (lowD n d)) := by
  unfold isRat
  by_cases h : Fits (lowN n d) (lowD n d)
  · simp [h, (low_fits hd h).2]
  · have : ¬ IsRatP (lowN n d) (lowD n d) := fun k => h ⟨k.2.2.1, k.2.2.2.1, by have := k.1; omega, k.2.1⟩
    simp [h, this]
theorem low_unique {n d p q : Int} (hd : d ≠ 0) (hr : IsRatP p q) (h : n * q = p * d) : low n d = (p, q) := by
  obtain ⟨h1, h2, h3, h4, h5⟩ := hr
  obtain ⟨p', q', k, hq, hk, hn, hd', hg, e1, e2, _, _⟩ := parts n d hd
  have e : p' * q = p * q' := by
    have : (p' * q) * k = (p * q') * k := by
      calc (p' * q) * k = (p' * k) * q := by rw [Int.mul_right_comm]
        _ = n * q := by rw [← hn]
        _ = p * d := h
        _ = p * (q' * k) := by rw [← hd']
        _ = (p * q') * k := by rw [Int.mul_assoc]
    exact Int.eq_of_mul_eq_mul_right hk this
  have d1 : q' ∣ q := by
    have : q' ∣ p' * q := ⟨p, by rw [e, Int.mul_comm]⟩
    exact dvd_of_coprime this (by rw [Int.gcd_comm]; exact hg)
  have d2 : q ∣ q' := by
    have : q ∣ p * q' := ⟨p', by rw [← e, Int.mul_comm]⟩
    exact dvd_of_coprime this (by rw [Int.gcd_comm]; exact h5)
  have eq : q' = q := by
    have l1 := Int.le_of_dvd (by omega) d1
    have l2 := Int.le_of_dvd (by omega) d2
    omega
  subst eq
  have ep : p' = p := Int.eq_of_mul_eq_mul_right (show q' ≠ 0 by omega) e
  subst ep
  unfold low
  rw [if_neg hd, e1, e2, if_pos ⟨h3, h4, by omega, h2⟩]
theorem low_says {n d p q : Int} (h : low n d = (p, q)) (hr : IsRatP p q) : d ≠ 0 ∧ n * q = p * d := by
  by_cases hd : d = 0
  · subst hd; rw [low_zero] at h; cases h; exact absurd hr not_isRat_zero
  · refine ⟨hd, ?_⟩
    obtain ⟨p', q', k, hq, hk, hn, hd', hg, e1, e2, _, _⟩ := parts n d hd
    by_cases hf : Fits (lowN n d) (lowD n d)
    · rw [(low_fits hd hf).1, e1, e2] at h
      cases h
      calc n * q = (p * k) * q := by rw [← hn]
        _ = p * (q * k) := by rw [Int.mul_assoc, Int.mul_comm k q]
        _ = p * d := by rw [← hd']
    · rw [low_none hf] at h; cases h; exact absurd hr not_isRat_zero
theorem low_cases (n d : Int) : low n d = (0, 0) ∨ ∃ p q, low n d = (p, q) ∧ IsRatP p q := by
  by_cases hd : d = 0
  · subst hd; exact .inl (low_zero n)
  · by_cases hf : Fits (lowN n d) (lowD n d)
    · exact .inr ⟨_, _, (low_fits hd hf).1, (low_fits hd hf).2⟩
    · exact .inl (low_none hf)
theorem low_self {p q : Int} (hr : IsRatP p q) : low p q = (p, q) := low_unique (by have := hr.1; omega) hr rfl
theorem isRat_iff (n d : Int) (h : ¬ (n = 0 ∧ d = 0)) : IsRatP n d ↔ low n d = (n, d) := by
  constructor
  · exact low_self
  · intro e
    rcases low_cases n d with h0 | ⟨p, q, h1, h2⟩
    · rw [h0] at e; cases e; exact absurd ⟨rfl, rfl⟩ h
    · rw [h1] at e; cases e; exact h2
theorem isRat_in {n d : Int} (h : IsRatP n d) : (-400000000 ≤ n ∧ n ≤ 400000000) ∧ (-400000000 ≤ d ∧ d ≤ 400000000) := ⟨⟨h.2.2.1, h.2.2.2.1⟩, by have := h.1; omega, h.2.1⟩
def mkRat (n d : Int) : Int × Int := if (-400000000 ≤ n ∧ n ≤ 400000000) ∧ (-400000000 ≤ d ∧ d ≤ 400000000) then low n d else (0, 0)
theorem mkRat_in {n d : Int} (h : (-400000000 ≤ n ∧ n ≤ 400000000) ∧ (-400000000 ≤ d ∧ d ≤ 400000000)) : mkRat n d = low n d := if_pos h
theorem mkRat_out {n d : Int} (h : ¬ ((-400000000 ≤ n ∧ n ≤ 400000000) ∧ (-400000000 ≤ d ∧ d ≤ 400000000))) : mkRat n d = (0, 0) := if_neg h
theorem isRat_mk (n d : Int) (h : ¬ (n = 0 ∧ d = 0)) : isRat n d = decide (mkRat n d = (n, d)) := by
  unfold isRat
  by_cases hb : (-400000000 ≤ n ∧ n ≤ 400000000) ∧ (-400000000 ≤ d ∧ d ≤ 400000000)
  · rw [mkRat_in hb]; exact decide_eq_decide.2 (isRat_iff n d h)
  · rw [mkRat_out hb]
    have h1 : ¬ IsRatP n d := fun k => hb (isRat_in k)
    have h2 : ¬ ((0, 0) = (n, d)) := fun k => h (by cases k; exact ⟨rfl, rfl⟩)
    simp [h1, h2]
theorem mul_sm (a b : Int) (ha : -400000000 ≤ a ∧ a ≤ 400000000) (hb : -400000000 ≤ b ∧ b ≤ 400000000) : -160000000000000000 ≤ a * b ∧ a * b ≤ 160000000000000000 := by
  have e : (a * b).natAbs = a.natAbs * b.natAbs := Int.natAbs_mul a b
  have l : a.natAbs * b.natAbs ≤ 400000000 * 400000000 := Nat.mul_le_mul (by omega) (by omega)
  omega
end Go.Proofs.YtcapddcmnjeloaaGreatDoor
end

section
/-
  Plain mathematics of chapter 2: sums, products and quotients of ratios. Nothing of a program is used.
-/
namespace Go.Proofs.YtcapddcmnjeloaaGreatDoor
def addR (a b c d : Int) : Int × Int := if (isRat a b && isRat c d) = true then low (a * d + c * b) (b * d) else (0, 0)
def mulR (a b c d : Int) : Int × Int := if (isRat a b && isRat c d) = true then low (a * c) (b * d) else (0, 0)
def RatQ (z : Int × Int) : Prop := IsRatP z.1 z.2
theorem addR_back {a b c d : Int} (h : RatQ (addR a b c d)) : IsRatP a b ∧ IsRatP c d ∧ (a * d + c * b) * (addR a b c d).2 = (addR a b c d).1 * (b * d) := by
  unfold addR at h ⊢
  by_cases hh : (isRat a b && isRat c d) = true
  · rw [if_pos hh] at h ⊢
    rw [Bool.and_eq_true] at hh
    exact ⟨of_decide_eq_true hh.1, of_decide_eq_true hh.2, (low_says rfl h).2⟩
  · rw [if_neg hh] at h; exact absurd h not_isRat_zero
theorem mulR_back {a b c d : Int} (h : RatQ (mulR a b c d)) : IsRatP a b ∧ IsRatP c d ∧ a * c * (mulR a b c d).2 = (mulR a b c d).1 * (b * d) := by
  unfold mulR at h ⊢
  by_cases hh : (isRat a b && isRat c d) = true
  · rw [if_pos hh] at h ⊢
    rw [Bool.and_eq_true] at hh
    exact ⟨of_decide_eq_true hh.1, of_decide_eq_true hh.2, (low_says rfl h).2⟩
  · rw [if_neg hh] at h; exact absurd h not_isRat_zero
theorem addR_or (a b c d : Int) : addR a b c d = (0, 0) ∨ RatQ (addR a b c d) := by
  unfold addR
  split
  · rcases low_cases (a * d + c * b) (b * d) with h | ⟨p, q, h, hr⟩
    · exact .inl h
    · exact .inr (by rw [h]; exact hr)
  · exact .inl rfl
theorem rat_same {a b c d : Int} (h : IsRatP a b) (h' : IsRatP c d) (e : a * d = c * b) : a = c ∧ b = d := by
  have h1 := low_unique (by have := h.1; omega) h' e
  rw [low_self h] at h1
  cases h1
  exact ⟨rfl, rfl⟩
end Go.Proofs.YtcapddcmnjeloaaGreatDoor
end

section
/-
  Plain mathematics of chapter 9: the bound of a determinant by its rows, Chinese remainders, symmetric residues. Nothing of a program is used.
-/
namespace Go.Proofs.YtcapddcmnjeloaaGreatDoor
def prodI (f : Nat → Int) : Nat → Int
  | 0 => 1
  | k + 1 => prodI f k * f k
theorem prodI_congr {f g : Nat → Int} : ∀ {n : Nat}, (∀ i, i < n → f i = g i) → prodI f n = prodI g n
  | 0, _ => rfl
  | n + 1, h => by
    show prodI f n * f n = prodI g n * g n
    rw [prodI_congr fun i hi => h i (by omega), h n (by omega)]
theorem prodI_pos {f : Nat → Int} : ∀ {n : Nat}, (∀ i, i < n → 0 < f i) → 0 < prodI f n
  | 0, _ => by show (0 : Int) < 1; decide
  | n + 1, h => Int.mul_pos (prodI_pos fun i hi => h i (by omega)) (h n (by omega))
theorem prodI_dvd {f : Nat → Int} : ∀ {n i : Nat}, i < n → f i ∣ prodI f n
  | 0, i, h => by omega
  | n + 1, i, h => by
    rcases Nat.lt_or_ge i n with h1 | h1
    · exact Int.dvd_trans (prodI_dvd h1) (Int.dvd_mul_right _ _)
    · obtain rfl : i = n := by omega
      exact Int.dvd_mul_left _ _
end Go.Proofs.YtcapddcmnjeloaaGreatDoor
end

section
/-
  Plain mathematics of chapter 3: matrices as lists of cells. Nothing of a program is imported.
-/
namespace Go.Proofs.YtcapddcmnjeloaaGreatDoor
def NumP (z : Int) : Prop := -400000000 ≤ z ∧ z ≤ 400000000
instance (z : Int) : Decidable (NumP z) := by unfold NumP; exact inferInstance
def SizeP (z : Int) : Prop := 0 ≤ z ∧ z ≤ 24
instance (z : Int) : Decidable (SizeP z) := by unfold SizeP; exact inferInstance
def nums (zs : List Int) : Bool := zs.all fun z => decide (NumP z)
def isMat (r c : Int) (zs : List Int) : Bool := decide (SizeP r) && decide (SizeP c) && decide ((zs.length : Int) = r * c) && nums zs
theorem nums_true {zs : List Int} (h : ∀ j : Nat, j < zs.length → NumP (zs.getD j 0)) : nums zs = true := by
  unfold nums
  rw [List.all_eq_true]
  intro z hz
  obtain ⟨i, hi, rfl⟩ := List.getElem_of_mem hz
  have := h i hi
  simp only [List.getD, hi, List.getElem?_eq_getElem, Option.getD_some] at this
  exact decide_eq_true this
theorem nums_false {zs : List Int} {j : Nat} (hj : j < zs.length) (h : ¬ NumP (zs.getD j 0)) : nums zs = false := by
  unfold nums
  rw [List.all_eq_false]
  refine ⟨zs[j], List.getElem_mem hj, ?_⟩
  simp only [List.getD, hj, List.getElem?_eq_getElem, Option.getD_some] at h
  simpa using h
theorem nums_at {zs : List Int} (h : nums zs = true) {j : Nat} (hj : j < zs.length) : NumP (zs.getD j 0) := by
  unfold nums at h
  rw [List.all_eq_true] at h
  have := h zs[j] (List.getElem_mem hj)
  simp only [List.getD, hj, List.getElem?_eq_getElem, Option.getD_some]
  exact of_decide_eq_true this
theorem isMat_says {r c : Int} {zs : List Int} (h : isMat r c zs = true) : (0 ≤ r ∧ r ≤ 24) ∧ (0 ≤ c ∧ c ≤ 24) ∧ (zs.length : Int) = r * c ∧ nums zs = true := by
  unfold isMat at h
  simp only [Bool.and_eq_true, decide_eq_true_eq] at h
  exact ⟨h.1.1.1, h.1.1.2, h.1.2, h.2⟩
theorem mul_size (r c : Int) (hr : 0 ≤ r ∧ r ≤ 24) (hc : 0 ≤ c ∧ c ≤ 24) : 0 ≤ r * c ∧ r * c ≤ 576 := by
  constructor
  · exact Int.mul_nonneg hr.1 hc.1
  · have := Int.mul_le_mul hr.2 hc.2 hc.1 (by omega); omega
def tab (r c : Nat) (f : Nat → Nat → Int) : List Int := (List.range (r * c)).map fun p => f (p / c) (p % c)
theorem tab_length (r c : Nat) (f : Nat → Nat → Int) : (tab r c f).length = r * c := by simp [tab]
theorem idx_lt {r c i j : Nat} (hi : i < r) (hj : j < c) : i * c + j < r * c := by
  have : (i + 1) * c ≤ r * c := Nat.mul_le_mul_right c hi
  rw [Nat.add_mul, Nat.one_mul] at this; omega
theorem idx_div {c i j : Nat} (hj : j < c) : (i * c + j) / c = i := by
  rw [Nat.mul_comm, Nat.mul_add_div (by omega), Nat.div_eq_of_lt hj]; omega
theorem idx_mod {c i j : Nat} (hj : j < c) : (i * c + j) % c = j := by
  rw [Nat.mul_comm, Nat.mul_add_mod, Nat.mod_eq_of_lt hj]
theorem idx_inj {c i j i' j' : Nat} (hj : j < c) (hj' : j' < c) (h : i * c + j = i' * c + j') : i = i' ∧ j = j' := by
  have h1 := idx_div (i := i) hj
  have h2 := idx_div (i := i') hj'
  have h3 := idx_mod (i := i) hj
  have h4 := idx_mod (i := i') hj'
  rw [h] at h1 h3
  exact ⟨h1.symm.trans h2, h3.symm.trans h4⟩
theorem tab_at (r c : Nat) (f : Nat → Nat → Int) {i j : Nat} (hi : i < r) (hj : j < c) : (tab r c f).getD (i * c + j) 0 = f i j := by
  have := idx_lt hi hj
  simp [tab, List.getD, this, idx_div hj, idx_mod hj]
theorem tab_ext {r c : Nat} {f : Nat → Nat → Int} {zs : List Int} (hl : zs.length = r * c) (h : ∀ i j : Nat, i < r → j < c → zs.getD (i * c + j) 0 = f i j) : zs = tab r c f := by
  apply List.ext_getElem (by rw [hl, tab_length])
  intro p h1 h2
  have hp : p < r * c := by omega
  have hc : 0 < c := by
    rcases Nat.eq_zero_or_pos c with e | e
    · subst e; simp at hp
    · exact e
  have hi : p / c < r := Nat.div_lt_of_lt_mul (by rw [Nat.mul_comm]; exact hp)
  have := h (p / c) (p % c) hi (Nat.mod_lt p hc)
  have e : p / c * c + p % c = p := by rw [Nat.mul_comm]; exact Nat.div_add_mod p c
  rw [e] at this
  simp only [List.getD, List.getElem?_eq_getElem h1, Option.getD_some] at this
  rw [this]
  simp [tab]
theorem getD_set (zs : List Int) (k q : Nat) (z : Int) (hk : k < zs.length) : (zs.set k z).getD q 0 = if q = k then z else zs.getD q 0 := by
  unfold List.getD
  rw [List.getElem?_set]
  by_cases e : k = q
  · subst e; simp [hk]
  · rw [if_neg e, if_neg (fun h => e h.symm)]
structure MR where
  ok : Bool
  r : Int
  c : Int
  zs : List Int
def MR.no : MR := ⟨false, 0, 0, []⟩
theorem mul_num (a b : Int) (ha : -400000000 ≤ a ∧ a ≤ 400000000) (hb : -400000000 ≤ b ∧ b ≤ 400000000) : -160000000000000000 ≤ a * b ∧ a * b ≤ 160000000000000000 := by
  have e : (a * b).natAbs = a.natAbs * b.natAbs := Int.natAbs_mul a b
  have l : a.natAbs * b.natAbs ≤ 400000000 * 400000000 := Nat.mul_le_mul (by omega) (by omega)
  omega
theorem list_eq {xs ys : List Int} {n : Nat} (hx : xs.length = n) (hy : ys.length = n) (h : ∀ j : Nat, j < n → xs.getD j 0 = ys.getD j 0) : xs = ys := by
  apply List.ext_getElem (by omega)
  intro i h1 h2
  have := h i (by omega)
  simpa [List.getD, h1, h2] using this
theorem list_getD {xs ys : List Int} (hl : xs.length = ys.length) (h : ∀ q : Nat, q < xs.length → xs.getD q 0 = ys.getD q 0) : xs = ys := list_eq (n := ys.length) hl rfl (by rw [← hl]; exact h)
end Go.Proofs.YtcapddcmnjeloaaGreatDoor
end

section
/-
  Plain mathematics of chapter 11: sums of products with ratios; what it is that ratios solve equations; that there is only one solution. Nothing of a program is used.
-/
namespace Go.Proofs.YtcapddcmnjeloaaGreatDoor
def sumR (u : Nat → Int) (z : Nat → Int × Int) : Nat → Int × Int
  | 0 => (0, 1)
  | j + 1 => addR (sumR u z j).1 (sumR u z j).2 (mulR (u j) 1 (z j).1 (z j).2).1 (mulR (u j) 1 (z j).1 (z j).2).2
theorem sumR_succ (u : Nat → Int) (z : Nat → Int × Int) (j : Nat) : sumR u z (j + 1) = addR (sumR u z j).1 (sumR u z j).2 (mulR (u j) 1 (z j).1 (z j).2).1 (mulR (u j) 1 (z j).1 (z j).2).2 := rfl
theorem sumR_says {u : Nat → Int} {z : Nat → Int × Int} : ∀ {k : Nat}, RatQ (sumR u z k) → (∀ j, j < k → RatQ (z j)) ∧ ∀ (D : Int) (y : Nat → Int), (∀ j, j < k → y j * (z j).2 = (z j).1 * D) → (sumR u z k).1 * D = (sumR u z k).2 * sumN k fun j => u j * y j
  | 0, _ => ⟨fun j hj => absurd hj (by omega), fun D y _ => by show 0 * D = 1 * 0; omega⟩
  | k + 1, h => by
    rw [sumR_succ] at h
    obtain ⟨h1, h2, h3⟩ := addR_back h
    obtain ⟨-, g2, g3⟩ := mulR_back (h2 : RatQ (mulR (u k) 1 (z k).1 (z k).2))
    obtain ⟨i1, i2⟩ := sumR_says (k := k) h1
    refine ⟨fun j hj => ?_, fun D y hy => ?_⟩
    · rcases Nat.lt_or_ge j k with hk | hk
      · exact i1 j hk
      · obtain rfl : j = k := by omega
        exact g2
    · have e1 := i2 D y fun j hj => hy j (by omega)
      have e2 := hy k (by omega)
      rw [← sumR_succ] at h3
      show (sumR u z (k + 1)).1 * D = (sumR u z (k + 1)).2 * (sumN k (fun j => u j * y j) + u k * y k)
      generalize (sumR u z (k + 1)).1 = p' at h3 ⊢
      generalize (sumR u z (k + 1)).2 = q' at h3 ⊢
      have hq := h1.1
      have ht := h2.1
      have hd := g2.1
      generalize (sumR u z k).1 = p at *
      generalize (sumR u z k).2 = q at *
      generalize (mulR (u k) 1 (z k).1 (z k).2).1 = s at *
      generalize (mulR (u k) 1 (z k).1 (z k).2).2 = t at *
      generalize (z k).1 = n at *
      generalize (z k).2 = d at *
      generalize sumN k (fun j => u j * y j) = S at *
      generalize y k = v at *
      generalize u k = w at *
      have e3 : w * v * t = s * D := by
        refine Int.eq_of_mul_eq_mul_right (show d ≠ 0 by omega) ?_
        calc w * v * t * d = w * t * (v * d) := by grind
          _ = w * t * (n * D) := by rw [e2]
          _ = w * n * t * D := by grind
          _ = s * (1 * d) * D := by rw [g3]
          _ = s * D * d := by grind
      refine Int.eq_of_mul_eq_mul_right (show q * t ≠ 0 from Int.mul_ne_zero (by omega) (by omega)) ?_
      calc p' * D * (q * t) = p' * (q * t) * D := by grind
        _ = (p * t + s * q) * q' * D := by rw [← h3]
        _ = q' * (t * (p * D) + q * (s * D)) := by grind
        _ = q' * (t * (q * S) + q * (w * v * t)) := by rw [e1, e3]
        _ = q' * (S + w * v) * (q * t) := by grind
structure RSol (r c : Nat) (M : Mx) (b : Nat → Int) (z : Nat → Int × Int) : Prop where
  rat : ∀ j, j < c → RatQ (z j)
  sol : ∀ (D : Int) (y : Nat → Int), (∀ j, j < c → y j * (z j).2 = (z j).1 * D) → ∀ i, i < r → (sumN c fun j => M i j * y j) = D * b i
theorem common (z : Nat → Int × Int) (E : Int) (n : Nat) : ∃ y : Nat → Int, ∀ j, j < n → y j * (z j).2 = (z j).1 * (prodI (fun j => (z j).2) n * E) := by
  have h : ∀ j, ∃ v : Int, j < n → v * (z j).2 = (z j).1 * (prodI (fun j => (z j).2) n * E) := fun j => by
    by_cases hj : j < n
    · obtain ⟨q, hq⟩ := prodI_dvd (f := fun j => (z j).2) hj
      refine ⟨(z j).1 * q * E, fun _ => ?_⟩
      rw [hq]
      show (z j).1 * q * E * (z j).2 = (z j).1 * ((z j).2 * q * E)
      grind
    · exact ⟨0, fun h => absurd h hj⟩
  exact ⟨fun j => Classical.choose (h j), fun j hj => Classical.choose_spec (h j) hj⟩
theorem dens_pos {n : Nat} {z : Nat → Int × Int} (h : ∀ j, j < n → RatQ (z j)) : 0 < prodI (fun j => (z j).2) n := prodI_pos fun j hj => by have := (h j hj).1; omega
theorem RSol.uniq {n : Nat} {M : Mx} {b : Nat → Int} {z w : Nat → Int × Int} (hd : det n M ≠ 0) (h : RSol n n M b z) (h' : RSol n n M b w) : ∀ j, j < n → z j = w j := fun j hj => by
  have p1 := dens_pos h.rat
  have p2 := dens_pos h'.rat
  obtain ⟨y, hy⟩ := common z (prodI (fun j => (w j).2) n) n
  obtain ⟨x, hx⟩ := common w (prodI (fun j => (z j).2) n) n
  have eP : prodI (fun j => (w j).2) n * prodI (fun j => (z j).2) n = prodI (fun j => (z j).2) n * prodI (fun j => (w j).2) n := Int.mul_comm _ _
  rw [eP] at hx
  have hP : prodI (fun j => (z j).2) n * prodI (fun j => (w j).2) n ≠ 0 := Int.mul_ne_zero (by omega) (by omega)
  generalize prodI (fun j => (z j).2) n * prodI (fun j => (w j).2) n = D at *
  have e := sol_uniq hd (h.sol D y hy) (h'.sol D x hx) j hj
  have e1 : y j = x j := Int.eq_of_mul_eq_mul_left hP e
  have e2 := hy j hj
  have e3 := hx j hj
  rw [e1] at e2
  have e4 : (z j).1 * (w j).2 = (w j).1 * (z j).2 := by
    refine Int.eq_of_mul_eq_mul_right hP ?_
    calc (z j).1 * (w j).2 * D = (z j).1 * D * (w j).2 := by grind
      _ = x j * (z j).2 * (w j).2 := by rw [e2]
      _ = x j * (w j).2 * (z j).2 := by grind
      _ = (w j).1 * D * (z j).2 := by rw [e3]
      _ = (w j).1 * (z j).2 * D := by grind
  obtain ⟨a1, a2⟩ := rat_same (h.rat j hj) (h'.rat j hj) e4
  exact Prod.ext a1 a2
theorem RSol.cramer {n : Nat} {M : Mx} {b : Nat → Int} {z : Nat → Int × Int} (hd : det n M ≠ 0) (hz : ∀ j, j < n → RatQ (z j) ∧ det n (rcX M j b) * (z j).2 = (z j).1 * det n M) : RSol n n M b z where
  rat := fun j hj => (hz j hj).1
  sol := fun D y hy i hi => by
    have e : ∀ j, j < n → y j * det n M = D * det n (rcX M j b) := fun j hj => by
      have e1 := hy j hj
      obtain ⟨h1, h2⟩ := hz j hj
      refine Int.eq_of_mul_eq_mul_right (show (z j).2 ≠ 0 by have := h1.1; omega) ?_
      calc y j * det n M * (z j).2 = y j * (z j).2 * det n M := by grind
        _ = (z j).1 * D * det n M := by rw [e1]
        _ = D * ((z j).1 * det n M) := by grind
        _ = D * (det n (rcX M j b) * (z j).2) := by rw [h2]
        _ = D * det n (rcX M j b) * (z j).2 := by grind
    refine Int.eq_of_mul_eq_mul_right hd ?_
    rw [sumN_mul]
    have e2 : (sumN n fun j => M i j * y j * det n M) = sumN n fun j => D * (M i j * det n (rcX M j b)) := sumN_congr fun j hj => by
      show M i j * y j * det n M = D * (M i j * det n (rcX M j b))
      rw [Int.mul_assoc, e j hj]; grind
    rw [e2, ← sumN_mul_left, Go.Proofs.YtcapddcmnjeloaaGreatDoor.cramer M b hi]
    grind
theorem sumR_or (u : Nat → Int) (z : Nat → Int × Int) (k : Nat) : sumR u z k = (0, 0) ∨ RatQ (sumR u z k) := by
  cases k with
  | zero => exact .inr (by show IsRatP 0 1; decide)
  | succ k => exact addR_or _ _ _ _
theorem RSol.sums {r c : Nat} {M : Mx} {b : Nat → Int} {z : Nat → Int × Int} (hr : 0 < r ∨ c = 0) (h : ∀ i, i < r → sumR (M i) z c = (b i, 1)) : RSol r c M b z := by
  have hq : ∀ i, i < r → RatQ (sumR (M i) z c) := fun i hi => by
    rcases sumR_or (M i) z c with h0 | h0
    · rw [h i hi] at h0
      have := congrArg Prod.snd h0
      have : (1 : Int) = 0 := this
      omega
    · exact h0
  refine ⟨fun j hj => ?_, fun D y hy i hi => ?_⟩
  · rcases hr with hr | hr
    · exact (sumR_says (hq 0 hr)).1 j hj
    · omega
  · have := (sumR_says (hq i hi)).2 D y hy
    rw [h i hi] at this
    have : b i * D = 1 * sumN c fun j => M i j * y j := this
    rw [Int.one_mul] at this
    rw [← this, Int.mul_comm]
end Go.Proofs.YtcapddcmnjeloaaGreatDoor
end

section
/-
  Small facts on worlds that all walks of this seat use: a block of three cells; what stays as it was; four results. No program is imported.
-/
namespace Go.Proofs.YtcapddcmnjeloaaGreatDoor
open Go.RowKit
def Gives (v : Value) (w : World) (e : Ending) (w' : World) : Prop := e = .returned v ∧ Below w.heap.size w w'
theorem retFour {fn : Func} {i j k l : Tmp} (hr : fn.results = #[.tmp i, .tmp j, .tmp k, .tmp l]) (ts : Array Value) (P : Program) (w : World) :
    (results fn ts).run P w = .ok (.tuple #[ts.getD i undef, ts.getD j undef, ts.getD k undef, ts.getD l undef]) w := by
  simp [results, hr]
theorem bcell {W w1 : World} (hb : Below W.heap.size W w1) : (∀ b o, b < W.heap.size → w1.cell? ⟨b, o, none⟩ = W.cell? ⟨b, o, none⟩) ∧ (∀ b o, b < W.heap.size → w1.frozen? ⟨b, o, none⟩ = W.frozen? ⟨b, o, none⟩) :=
  ⟨fun b o h => hb.cell (p := ⟨b, o, none⟩) h, fun b o h => hb.frozen (p := ⟨b, o, none⟩) h⟩
def Blk3 (w : World) (b : Nat) (t : TypeId) (p q r : Value) : Prop := w.heap[b]? = some (.cells #[p, q, r] t (0, 0))
theorem Blk3.cell0 {w : World} {b : Nat} {t : TypeId} {p q r : Value} (h : Blk3 w b t p q r) : w.cell? ⟨b, 0, none⟩ = some p := by unfold Blk3 at h; simp [World.cell?, h]
theorem Blk3.cell1 {w : World} {b : Nat} {t : TypeId} {p q r : Value} (h : Blk3 w b t p q r) : w.cell? ⟨b, 1, none⟩ = some q := by unfold Blk3 at h; simp [World.cell?, h]
theorem Blk3.cell2 {w : World} {b : Nat} {t : TypeId} {p q r : Value} (h : Blk3 w b t p q r) : w.cell? ⟨b, 2, none⟩ = some r := by unfold Blk3 at h; simp [World.cell?, h]
theorem Blk3.free {w : World} {b : Nat} {t : TypeId} {p q r : Value} (h : Blk3 w b t p q r) (o : Nat) : w.frozen? ⟨b, o, none⟩ = false := by unfold Blk3 at h; simp [World.frozen?, h]
theorem Blk3.lt {w : World} {b : Nat} {t : TypeId} {p q r : Value} (h : Blk3 w b t p q r) : b < w.heap.size := lt_of_block h
theorem Blk3.all {w : World} {b : Nat} {t : TypeId} {p q r : Value} (h : Blk3 w b t p q r) : w.cell? ⟨b, 0, none⟩ = some p ∧ w.cell? ⟨b, 1, none⟩ = some q ∧ w.cell? ⟨b, 2, none⟩ = some r ∧ w.frozen? ⟨b, 0, none⟩ = false ∧ w.frozen? ⟨b, 1, none⟩ = false ∧ w.frozen? ⟨b, 2, none⟩ = false :=
  ⟨h.cell0, h.cell1, h.cell2, h.free 0, h.free 1, h.free 2⟩
theorem Blk3.set0 {w : World} {b : Nat} {t : TypeId} {p q r : Value} (h : Blk3 w b t p q r) (u : Value) : Blk3 (w.setCell ⟨b, 0, none⟩ u) b t u q r := by
  have hlt := h.lt
  unfold Blk3 at h ⊢
  have h' : w.heap[b] = .cells #[p, q, r] t (0, 0) := by simpa [Array.getElem?_eq_getElem hlt] using h
  show (w.heap.modify b _)[b]? = _
  rw [Array.getElem?_eq_getElem (by simpa using hlt), Array.getElem_modify_self, h']
  rfl
theorem Blk3.set1 {w : World} {b : Nat} {t : TypeId} {p q r : Value} (h : Blk3 w b t p q r) (u : Value) : Blk3 (w.setCell ⟨b, 1, none⟩ u) b t p u r := by
  have hlt := h.lt
  unfold Blk3 at h ⊢
  have h' : w.heap[b] = .cells #[p, q, r] t (0, 0) := by simpa [Array.getElem?_eq_getElem hlt] using h
  show (w.heap.modify b _)[b]? = _
  rw [Array.getElem?_eq_getElem (by simpa using hlt), Array.getElem_modify_self, h']
  rfl
theorem Blk3.set2 {w : World} {b : Nat} {t : TypeId} {p q r : Value} (h : Blk3 w b t p q r) (u : Value) : Blk3 (w.setCell ⟨b, 2, none⟩ u) b t p q u := by
  have hlt := h.lt
  unfold Blk3 at h ⊢
  have h' : w.heap[b] = .cells #[p, q, r] t (0, 0) := by simpa [Array.getElem?_eq_getElem hlt] using h
  show (w.heap.modify b _)[b]? = _
  rw [Array.getElem?_eq_getElem (by simpa using hlt), Array.getElem_modify_self, h']
  rfl
theorem Blk3.far {w : World} {b : Nat} {t : TypeId} {p q r : Value} (h : Blk3 w b t p q r) {a : Addr} (ha : b ≠ a.block) (u : Value) : Blk3 (w.setCell a u) b t p q r := (Below.heap_setCell w a u b ha).trans h
theorem Blk3.keep {w w' : World} {b B : Nat} {t : TypeId} {p q r : Value} (h : Blk3 w b t p q r) (hb : Below B w w') (hB : b < B) : Blk3 w' b t p q r := (hb.block b hB).trans h
theorem Blk3.drewN {w : World} {b : Nat} {t : TypeId} {p q r : Value} (h : Blk3 w b t p q r) (n : Nat) : Blk3 (w.drewN n) b t p q r := h
theorem Blk3.new (w : World) (t : TypeId) (p q r : Value) : Blk3 (w.alloc (.cells #[p, q, r] t)) w.heap.size t p q r := by
  unfold Blk3; show (w.heap.push _)[w.heap.size]? = _
  rw [Array.getElem?_push, if_pos rfl]
theorem Blk3.at_ {w : World} {b : Nat} (t : TypeId) (p q r : Value) (hb : b = w.heap.size) : Blk3 (w.alloc (.cells #[p, q, r] t)) b t p q r := by
  subst hb; exact Blk3.new w t p q r
theorem Blk3.drew {w : World} {b : Nat} {t : TypeId} {p q r : Value} (h : Blk3 w b t p q r) : Blk3 w.drew b t p q r := h
theorem Blk3.old {w : World} {b : Nat} {t : TypeId} {p q r : Value} (h : Blk3 w b t p q r) (o : Obj) : Blk3 (w.alloc o) b t p q r := (Below.heap_alloc w o b h.lt).trans h
def Blk2 (w : World) (b : Nat) (t : TypeId) (p q : Value) : Prop := w.heap[b]? = some (.cells #[p, q] t (0, 0))
theorem Blk2.cell0 {w : World} {b : Nat} {t : TypeId} {p q : Value} (h : Blk2 w b t p q) : w.cell? ⟨b, 0, none⟩ = some p := by unfold Blk2 at h; simp [World.cell?, h]
theorem Blk2.cell1 {w : World} {b : Nat} {t : TypeId} {p q : Value} (h : Blk2 w b t p q) : w.cell? ⟨b, 1, none⟩ = some q := by unfold Blk2 at h; simp [World.cell?, h]
theorem Blk2.free {w : World} {b : Nat} {t : TypeId} {p q : Value} (h : Blk2 w b t p q) (o : Nat) : w.frozen? ⟨b, o, none⟩ = false := by unfold Blk2 at h; simp [World.frozen?, h]
theorem Blk2.lt {w : World} {b : Nat} {t : TypeId} {p q : Value} (h : Blk2 w b t p q) : b < w.heap.size := lt_of_block h
theorem Blk2.all {w : World} {b : Nat} {t : TypeId} {p q : Value} (h : Blk2 w b t p q) : w.cell? ⟨b, 0, none⟩ = some p ∧ w.cell? ⟨b, 1, none⟩ = some q ∧ w.frozen? ⟨b, 0, none⟩ = false ∧ w.frozen? ⟨b, 1, none⟩ = false :=
  ⟨h.cell0, h.cell1, h.free 0, h.free 1⟩
theorem Blk2.set0 {w : World} {b : Nat} {t : TypeId} {p q : Value} (h : Blk2 w b t p q) (u : Value) : Blk2 (w.setCell ⟨b, 0, none⟩ u) b t u q := by
  have hlt := h.lt
  unfold Blk2 at h ⊢
  have h' : w.heap[b] = .cells #[p, q] t (0, 0) := by simpa [Array.getElem?_eq_getElem hlt] using h
  show (w.heap.modify b _)[b]? = _
  rw [Array.getElem?_eq_getElem (by simpa using hlt), Array.getElem_modify_self, h']
  rfl
theorem Blk2.set1 {w : World} {b : Nat} {t : TypeId} {p q : Value} (h : Blk2 w b t p q) (u : Value) : Blk2 (w.setCell ⟨b, 1, none⟩ u) b t p u := by
  have hlt := h.lt
  unfold Blk2 at h ⊢
  have h' : w.heap[b] = .cells #[p, q] t (0, 0) := by simpa [Array.getElem?_eq_getElem hlt] using h
  show (w.heap.modify b _)[b]? = _
  rw [Array.getElem?_eq_getElem (by simpa using hlt), Array.getElem_modify_self, h']
  rfl
theorem Blk2.far {w : World} {b : Nat} {t : TypeId} {p q : Value} (h : Blk2 w b t p q) {a : Addr} (ha : b ≠ a.block) (u : Value) : Blk2 (w.setCell a u) b t p q := (Below.heap_setCell w a u b ha).trans h
theorem Blk2.keep {w w' : World} {b B : Nat} {t : TypeId} {p q : Value} (h : Blk2 w b t p q) (hb : Below B w w') (hB : b < B) : Blk2 w' b t p q := (hb.block b hB).trans h
theorem Blk2.drewN {w : World} {b : Nat} {t : TypeId} {p q : Value} (h : Blk2 w b t p q) (n : Nat) : Blk2 (w.drewN n) b t p q := h
theorem Blk2.at_ {w : World} {b : Nat} (t : TypeId) (p q : Value) (hb : b = w.heap.size) : Blk2 (w.alloc (.cells #[p, q] t)) b t p q := by
  subst hb; unfold Blk2; show (w.heap.push _)[w.heap.size]? = _
  rw [Array.getElem?_push, if_pos rfl]
theorem Blk2.old {w : World} {b : Nat} {t : TypeId} {p q : Value} (h : Blk2 w b t p q) (o : Obj) : Blk2 (w.alloc o) b t p q := (Below.heap_alloc w o b h.lt).trans h
theorem grown_drewN_one {w w' : World} {row : Option Nat} (h : w.grownBy w' row) (n : Nat) : w.grownBy (w'.drewN n) row := ⟨h.os, h.tape, h.output, h.size, h.block⟩
theorem grown_drew_one {w w' : World} {row : Option Nat} (h : w.grownBy w' row) : w.grownBy w'.drew row := ⟨h.os, h.tape, h.output, h.size, h.block⟩
theorem grown_set_one {w w' : World} {b : Nat} (h : w.grownBy w' (some b)) {a : Addr} (ha : a.block = b) (u : Value) : w.grownBy (w'.setCell a u) (some b) :=
  ⟨h.os, h.tape, h.output, by simpa [World.setCell] using h.size, fun k hk hne => (Below.heap_setCell w' a u k (by rintro rfl; exact hne (by rw [ha]))).trans (h.block k hk hne)⟩
theorem below_of_one {w w' : World} {b B : Nat} (h : w.grownBy w' (some b)) (hB : B ≤ b) (hw : B ≤ w.heap.size) : Below B w w' :=
  ⟨h.os, h.tape, h.output, h.size, fun k hk => h.block k (by omega) (by simp; omega)⟩
theorem Blk3.keepOne {w w' : World} {b c : Nat} {t : TypeId} {p q r : Value} (h : Blk3 w b t p q r) (hg : w.grownBy w' (some c)) (hne : b ≠ c) : Blk3 w' b t p q r :=
  (hg.block b h.lt (by simpa using hne)).trans h
theorem grown_of_below {w w' : World} (h : Below w.heap.size w w') (row : Option Nat) : w.grownBy w' row := ⟨h.os, h.tape, h.output, h.size, fun k hk _ => h.block k hk⟩
end Go.Proofs.YtcapddcmnjeloaaGreatDoor
end

section
/-
  Slices of ints: what is read through one, a block of the call's own that is one; worlds. No function of the program is named.
-/
namespace Go.Proofs.YtcapddcmnjeloaaGreatDoor
open Go.RowKit
theorem info_int : (Tryz.prog.info? 3).map (fun i => (i.zero, i.size, i.bytes)) = some (some (.int .i64 0), 1, 8) := by kernel_rfl
theorem underlying_ints : Tryz.prog.underlying 24 = some (.slice 3) := by kernel_rfl
theorem facts_int : ∃ i, Tryz.prog.info? 3 = some i ∧ i.zero = some (.int .i64 0) ∧ i.size = 1 ∧ i.bytes = 8 := by
  obtain ⟨i, h, e⟩ := Option.map_eq_some_iff.mp info_int
  injection e with e1 e2
  injection e2 with e2 e3
  exact ⟨i, h, e1, e2, e3⟩
theorem makeInts (n : Nat) (h : n ≤ 16777216) (w : World) : (Instr.makeSlice 24 (.int .i64 (n : Int)) (.int .i64 (n : Int))).run Tryz.prog w = .ok (.slice (some ⟨w.heap.size, 0, none⟩) n n) (w.alloc (.cells (madeCells #[.int .i64 0] n) 3)) :=
  run_make_row' (P := Tryz.prog) 24 3 (.int .i64 0) 8 Tryz.underlying24 info_int rfl .i64 .i64 n (by omega) (by omega) w
theorem makeProd (R C : Nat) (h : R * C ≤ 16777216) (w : World) : (Instr.makeSlice 24 (.int .i64 ((R : Int) * (C : Int))) (.int .i64 ((R : Int) * (C : Int)))).run Tryz.prog w = .ok (.slice (some ⟨w.heap.size, 0, none⟩) (R * C) (R * C)) (w.alloc (.cells (madeCells #[.int .i64 0] (R * C)) 3)) := by
  rw [← Int.natCast_mul]; exact makeInts (R * C) h w
def Rd (w : World) (a : Option Addr) (zs : List Int) : Prop :=
  ∀ i : Nat, i < zs.length → ∃ b o : Nat, a = some ⟨b, o, none⟩ ∧ w.cell? ⟨b, o + i, none⟩ = some (.int .i64 (zs.getD i 0))
theorem Rd.nil (w : World) (a : Option Addr) : Rd w a [] := fun _ h => absurd h (Nat.not_lt_zero _)
theorem Rd.below {w w' : World} {a : Option Addr} {zs : List Int} (h : Rd w a zs) (hb : Below w.heap.size w w') : Rd w' a zs := fun i hi => by
  obtain ⟨b, o, ha, hc⟩ := h i hi
  exact ⟨b, o, ha, (hb.cell (World.block_lt_of_cell? w _ hc)).trans hc⟩
theorem Rd.drewN {w : World} {a : Option Addr} {zs : List Int} (h : Rd w a zs) (n : Nat) : Rd (w.drewN n) a zs := h
theorem Rd.one {w w' : World} {g : Nat} {a : Option Addr} {zs : List Int} (h : Rd w a zs) (hg : w.grownBy w' (some g)) (hne : ∀ b o : Nat, a = some ⟨b, o, none⟩ → b ≠ g) : Rd w' a zs := fun i hi => by
  obtain ⟨b, o, ha, hc⟩ := h i hi
  exact ⟨b, o, ha, hg.cell hc (by simpa using hne b o ha)⟩
def Ints (w : World) (g : Nat) (zs : List Int) : Prop := ∃ rest : List Value, w.heap[g]? = some (.cells (zs.map (Value.int .i64) ++ rest).toArray 3 (0, 0))
theorem Ints.move {w w' : World} {g : Nat} {zs : List Int} (h : Ints w g zs) (e : w'.heap[g]? = w.heap[g]?) : Ints w' g zs := by
  obtain ⟨rest, h⟩ := h
  exact ⟨rest, e.trans h⟩
theorem Ints.lt {w : World} {g : Nat} {zs : List Int} (h : Ints w g zs) : g < w.heap.size := by
  obtain ⟨_, h⟩ := h
  exact lt_of_block h
theorem Ints.cell {w : World} {g : Nat} {zs : List Int} (h : Ints w g zs) {i : Nat} (hi : i < zs.length) : w.cell? ⟨g, i, none⟩ = some (.int .i64 (zs.getD i 0)) := by
  obtain ⟨rest, h⟩ := h
  simp [World.cell?, h, List.getElem?_append, hi, List.getD]
theorem Ints.free {w : World} {g : Nat} {zs : List Int} (h : Ints w g zs) (i : Nat) : w.frozen? ⟨g, i, none⟩ = false := by
  obtain ⟨_, h⟩ := h
  simp [World.frozen?, h]
theorem Ints.rd {w : World} {g : Nat} {zs : List Int} (h : Ints w g zs) : Rd w (some ⟨g, 0, none⟩) zs := fun i hi => ⟨g, 0, rfl, by rw [Nat.zero_add]; exact h.cell hi⟩
theorem Ints.set {w : World} {g : Nat} {zs : List Int} (h : Ints w g zs) (i : Nat) (z : Int) : Ints (w.setCell ⟨g, i, none⟩ (.int .i64 z)) g (zs.set i z) := by
  obtain ⟨rest, h⟩ := h
  rcases Nat.lt_or_ge i zs.length with hi | hi
  · refine ⟨rest, ?_⟩
    simp [World.setCell, Array.getElem?_modify, h, hi]
  · refine ⟨rest.set (i - zs.length) (.int .i64 z), ?_⟩
    simp [World.setCell, Array.getElem?_modify, h, List.set_append, Nat.not_lt.mpr hi, List.set_eq_of_length_le hi]
theorem Ints.far {w : World} {g : Nat} {zs : List Int} (h : Ints w g zs) {a : Addr} (ha : g ≠ a.block) (u : Value) : Ints (w.setCell a u) g zs := h.move (Below.heap_setCell w a u g ha)
theorem Ints.keep {w w' : World} {g B : Nat} {zs : List Int} (h : Ints w g zs) (hb : Below B w w') (hB : g < B) : Ints w' g zs := h.move (hb.block g hB)
theorem Ints.drewN {w : World} {g : Nat} {zs : List Int} (h : Ints w g zs) (n : Nat) : Ints (w.drewN n) g zs := h
theorem Ints.drew {w : World} {g : Nat} {zs : List Int} (h : Ints w g zs) : Ints w.drew g zs := h
theorem Ints.old {w : World} {g : Nat} {zs : List Int} (h : Ints w g zs) (o : Obj) : Ints (w.alloc o) g zs := h.move (Below.heap_alloc w o g h.lt)
theorem madeCells_ints (n : Nat) : madeCells #[.int .i64 0] n = ((List.replicate n (0 : Int)).map (Value.int .i64)).toArray := by
  apply Array.ext
  · simp [madeCells]
  · intro i h1 h2
    simp [madeCells, Nat.mod_one]
theorem Ints.made {w : World} {g : Nat} (n : Nat) (hg : g = w.heap.size) : Ints (w.alloc (.cells (madeCells #[.int .i64 0] n) 3)) g (List.replicate n 0) := by
  subst hg
  refine ⟨[], ?_⟩
  rw [madeCells_ints, List.append_nil]
  exact heap_alloc_new w _
theorem Ints.ne_blk {w : World} {g b : Nat} {zs : List Int} {p q r : Value} (h : Ints w g zs) (k : Blk3 w b 26 p q r) : g ≠ b := by
  rintro rfl
  obtain ⟨rest, h⟩ := h
  unfold Blk3 at k
  rw [h] at k
  injection k with k
  injection k with _ k2 _
  exact absurd k2 (by decide)
theorem set_step (zs : List Int) (k : Nat) (hk : k < zs.length) : (zs.take k ++ List.replicate (zs.length - k) 0).set k (zs.getD k 0) = zs.take (k + 1) ++ List.replicate (zs.length - (k + 1)) 0 := by
  rw [List.set_append]
  have e : (zs.take k).length = k := by simp; omega
  rw [if_neg (by omega), e, Nat.sub_self]
  have e2 : zs.length - k = (zs.length - (k + 1)) + 1 := by omega
  rw [e2, List.replicate_succ, List.set_cons_zero]
  have e3 : zs.take (k + 1) = zs.take k ++ [zs.getD k 0] := by
    rw [List.take_succ_eq_append_getElem hk]
    simp [List.getD, hk]
  rw [e3, List.append_assoc]
  rfl
theorem mid_zero (zs : List Int) (m k : Nat) (hk : k ≤ zs.length) : (zs.take k ++ List.replicate m (0 : Int)).getD k 0 = 0 := by
  have e : (zs.take k).length = k := by simp; omega
  unfold List.getD
  rw [List.getElem?_append_right (by omega), e, Nat.sub_self]
  cases m <;> simp [List.replicate_succ]
def Own (B : Nat) (w : World) (v : Value) (zs : List Int) : Prop :=
  (v = .slice none 0 0 ∧ zs = []) ∨ ∃ (g cap : Nat), v = .slice (some ⟨g, 0, none⟩) zs.length cap ∧ B ≤ g ∧ Ints w g zs ∧ zs.length ≤ cap ∧ zs.length ≤ 16777216
theorem Own.form {B : Nat} {w : World} {v : Value} {zs : List Int} (h : Own B w v zs) : ∃ (a : Option Addr) (cap : Nat), v = .slice a zs.length cap ∧ Rd w a zs ∧ zs.length ≤ 16777216 := by
  rcases h with ⟨rfl, rfl⟩ | ⟨g, cap, rfl, _, hi, hl, hc⟩
  · exact ⟨none, 0, rfl, Rd.nil _ _, by simp⟩
  · exact ⟨_, _, rfl, hi.rd, hc⟩
theorem Own.keep {B : Nat} {w w' : World} {v : Value} {zs : List Int} (h : Own B w v zs) (hb : Below w.heap.size w w') : Own B w' v zs := by
  rcases h with h | ⟨g, cap, hv, hB, hi, hl, hc⟩
  · exact .inl h
  · exact .inr ⟨g, cap, hv, hB, hi.keep hb hi.lt, hl, hc⟩
theorem Own.le {B B' : Nat} {w : World} {v : Value} {zs : List Int} (h : Own B w v zs) (hB : B' ≤ B) : Own B' w v zs := by
  rcases h with h | ⟨g, cap, hv, hB', hi, hl, hc⟩
  · exact .inl h
  · exact .inr ⟨g, cap, hv, by omega, hi, hl, hc⟩
theorem Own.of_row {B : Nat} {w : World} {v : Value} {zs : List Int} (h : w.ownsRow B 3 1 v zs.length (zs.map (Value.int .i64))) (hl : zs.length ≤ 16777216) : Own B w v zs := by
  rcases h.2 with ⟨rfl, h0⟩ | ⟨g, cap, cur, rfl, hB, hg, hc, -, -, ht⟩
  · exact .inl ⟨rfl, List.eq_nil_of_length_eq_zero h0⟩
  · refine .inr ⟨g, cap, rfl, hB, ⟨cur.toList.drop zs.length, ?_⟩, hc, hl⟩
    rw [hg]
    congr 1
    congr 1
    rw [Nat.mul_one] at ht
    rw [← ht, List.take_append_drop]
end Go.Proofs.YtcapddcmnjeloaaGreatDoor
end

section
/-
  Chapter 1, in the model and in the program: IsNumber.
-/
namespace Go.Proofs.YtcapddcmnjeloaaGreatDoor
open Go.RowKit
theorem ret_int {k : IntKind} {a b : Int} (h : a = b) : Ending.returned (.int k a) = .returned (.int k b) := by rw [h]
theorem sIn_t (n a b : Int) (w : World) (h1 : a ≤ n) (h2 : n ≤ b) :
    Calls Tryz.prog 55 #[.int .i64 n, .int .i64 a, .int .i64 b] w fun e w' => e = .returned (.bool true) ∧ w = w' := by
  go_enter Tryz.func55, Tryz.ntmps55
  go_wp2
  go_ret
  exact ⟨rfl, rfl⟩
theorem sIn_f (n a b : Int) (w : World) (h : n < a ∨ b < n) :
    Calls Tryz.prog 55 #[.int .i64 n, .int .i64 a, .int .i64 b] w fun e w' => e = .returned (.bool false) ∧ w = w' := by
  by_cases h1 : a ≤ n
  · have h2 : decide (n ≤ b) = false := by simp; omega
    go_enter Tryz.func55, Tryz.ntmps55
    go_wp2
    go_ret
    exact ⟨rfl, rfl⟩
  · go_enter Tryz.func55, Tryz.ntmps55
    go_wp2
    go_ret
    exact ⟨rfl, rfl⟩
theorem sIsNum_t (n : Int) (w : World) (h1 : -400000000 ≤ n) (h2 : n ≤ 400000000) :
    Calls Tryz.prog 56 #[.int .i64 n] w fun e w' => e = .returned (.bool true) ∧ w = w' := by
  go_enter Tryz.func56, Tryz.ntmps56
  go_wp2
  go_ret
  exact ⟨rfl, rfl⟩
theorem sIsNum_f (n : Int) (w : World) (h : n < -400000000 ∨ 400000000 < n) :
    Calls Tryz.prog 56 #[.int .i64 n] w fun e w' => e = .returned (.bool false) ∧ w = w' := by
  rcases h with h | h
  · go_enter Tryz.func56, Tryz.ntmps56
    go_wp2
    go_ret
    exact ⟨rfl, rfl⟩
  · have h1 : -400000000 ≤ n := by omega
    have h2 : decide (n ≤ 400000000) = false := by simp; omega
    go_enter Tryz.func56, Tryz.ntmps56
    go_wp2
    go_ret
    exact ⟨rfl, rfl⟩
theorem iIsNum_t (n : Int) (w : World) (h1 : -400000000 ≤ n) (h2 : n ≤ 400000000) :
    Calls Tryz.prog 90 #[.int .i64 n] w fun e w' => e = .returned (.bool true) ∧ w = w' := by
  go_enter Tryz.func90, Tryz.ntmps90
  go_wp2
  go_ret
  exact ⟨rfl, rfl⟩
theorem iIsNum_f (n : Int) (w : World) (h : n < -400000000 ∨ 400000000 < n) :
    Calls Tryz.prog 90 #[.int .i64 n] w fun e w' => e = .returned (.bool false) ∧ w = w' := by
  rcases h with h | h
  · go_enter Tryz.func90, Tryz.ntmps90
    go_wp2
    go_ret
    exact ⟨rfl, rfl⟩
  · have h1 : -400000000 ≤ n := by omega
    have h2 : decide (n ≤ 400000000) = false := by simp; omega
    go_enter Tryz.func90, Tryz.ntmps90
    go_wp2
    go_ret
    exact ⟨rfl, rfl⟩
end Go.Proofs.YtcapddcmnjeloaaGreatDoor
end

section
/-
  The laws' own helpers on slices of ints: sizes, copies, comparisons, marks.
-/
namespace Go.Proofs.YtcapddcmnjeloaaGreatDoor
open Go.RowKit
set_option maxHeartbeats 400000 in
theorem toI (a : Option Addr) (cap : Nat) (zs : List Int) (w : World) (h : Rd w a zs) (hn : zs.length ≤ 1048576) :
    Calls Tryz.prog 26 #[.slice a zs.length cap] w fun e w' => e = .returned (.slice (some ⟨w.heap.size, 0, none⟩) zs.length zs.length) ∧ Ints w' w.heap.size zs ∧ Below w.heap.size w w' := by
  have hmk := makeInts zs.length (by omega)
  have H := Lib.hid h
  clear h
  obtain ⟨n, hnn⟩ : ∃ n, zs.length = n := ⟨_, rfl⟩
  rw [hnn] at hn hmk ⊢
  have HN := Lib.hid hnn
  clear hnn
  go_enter Tryz.func26, Tryz.ntmps26
  go_wp2_with fail
  go_loopw [4] (fun i wr => ∃ k : Nat, i = .int .i64 k ∧ k ≤ n ∧ Ints wr w.heap.size (zs.take k ++ List.replicate (n - k) 0) ∧ Below w.heap.size w wr) (fun i _ => n - (intOf i).toNat)
  case atStart => exact ⟨0, rfl, by omega, by simpa using Ints.made n rfl, (Below.refl _ _).alloc (Nat.le_refl _) _⟩
  case round =>
    obtain ⟨k, rfl, hk, hi, hb⟩ := hrel
    have I := Lib.hid hi
    have B := Lib.hid hb
    clear hi hb
    by_cases hlt : k < n
    · obtain ⟨b, o, rfl, hc⟩ := (H.out.below B.out) k (by rw [HN.out]; exact hlt)
      have hold := I.out.cell (i := k) (by simp [HN.out]; omega)
      have hfr := I.out.free k
      rw [mid_zero zs (n - k) k (by rw [HN.out]; exact hk)] at hold
      obtain ⟨z, hz⟩ : ∃ z, zs.getD k 0 = z := ⟨_, rfl⟩
      rw [hz] at hc
      have Z := Lib.hid hz
      clear hz
      go_wp2_with fail
      go_roundw
      case rel =>
        refine ⟨k + 1, by go_num, by omega, ?_, B.out.setCell (Nat.le_refl _) _⟩
        have S := set_step zs k (by rw [HN.out]; exact hlt)
        rw [HN.out, Z.out] at S
        rw [← S]
        exact I.out.set k z
      case measure => simp [intOf]; omega
    · have hkn : k = n := by omega
      subst hkn
      go_wp2_with fail
      go_ret
      refine ⟨rfl, ?_, B.out⟩
      have e : zs.take k ++ List.replicate (k - k) 0 = zs := by rw [← HN.out]; simp
      rw [← e]; exact I.out
end Go.Proofs.YtcapddcmnjeloaaGreatDoor
end

section
/-
  Chapter 3, in the model: IsMatrix, a matrix of zeros, one that is done.
-/
namespace Go.Proofs.YtcapddcmnjeloaaGreatDoor
open Go.RowKit
def MatRes (m : MR) (w : World) (e : Ending) (w' : World) : Prop :=
  ∃ v : Value, e = .returned (.tuple #[.agg #[.int .i64 m.r, .int .i64 m.c, v], .bool m.ok]) ∧ Own w.heap.size w' v m.zs ∧ Below w.heap.size w w'
set_option maxHeartbeats 400000 in
theorem sIsMat (r c : Int) (a : Option Addr) (cap : Nat) (zs : List Int) (w : World) (h : Rd w a zs) (hn : zs.length ≤ 16777216) :
    Calls Tryz.prog 19 #[.agg #[.int .i64 r, .int .i64 c, .slice a zs.length cap]] w (Gives (.bool (isMat r c zs)) w) := by
  have B0 : ∀ o, Below w.heap.size w (w.alloc o) := fun o => (Below.refl _ _).alloc (Nat.le_refl _) o
  have BH := Lib.hid B0
  have H := Lib.hid h
  clear h B0
  obtain ⟨n, hnn⟩ : ∃ n, zs.length = n := ⟨_, rfl⟩
  have HN := Lib.hid hnn
  have ED : isMat r c zs = (decide (SizeP r) && decide (SizeP c) && decide ((n : Int) = r * c) && nums zs) := by unfold isMat; rw [hnn]
  have E := Lib.hid ED
  rw [hnn] at hn ⊢
  clear hnn ED
  by_cases hr : 0 ≤ r ∧ r ≤ 24
  · by_cases hc : 0 ≤ c ∧ c ≤ 24
    · obtain ⟨m1, m2⟩ := mul_size r c hr hc
      by_cases hl : (n : Int) = r * c
      · have l1 : ((n : Int) != r * c) = false := by simpa using hl
        have l2 : ((n : Int) == r * c) = true := by simpa using hl
        have E2 : Hid (isMat r c zs = nums zs) := by
          show isMat r c zs = nums zs
          rw [E.out, show decide (SizeP r) = true from decide_eq_true hr, show decide (SizeP c) = true from decide_eq_true hc, show decide ((n : Int) = r * c) = true from decide_eq_true hl]; rfl
        clear hl
        obtain ⟨r1, r2⟩ := hr
        obtain ⟨c1, c2⟩ := hc
        go_enter Tryz.func19, Tryz.ntmps19
        go_wp2_with (go_at_call 55; refine (sIn_t _ _ _ _ (by omega) (by omega)).mono ?_; rintro e w' ⟨rfl, rfl⟩)
        go_loop [3] (fun i => ∃ k : Nat, i = .int .i64 k ∧ k ≤ n ∧ ∀ j : Nat, j < k → NumP (zs.getD j 0)) (fun i => n - (intOf i).toNat)
        case atStart => exact ⟨0, rfl, by omega, fun j hj => absurd hj (by omega)⟩
        case round =>
          obtain ⟨k, rfl, hk, hall⟩ := hrel
          have HA := Lib.hid hall
          clear hall
          by_cases hlt : k < n
          · obtain ⟨b, o, rfl, hcell⟩ := (H.out.below (BH.out (.cells #[.int .i64 r, .int .i64 c, .slice a n cap] 26))) k (by rw [HN.out]; exact hlt)
            obtain ⟨z, hz⟩ : ∃ z, zs.getD k 0 = z := ⟨_, rfl⟩
            rw [hz] at hcell
            have Z := Lib.hid hz
            clear hz
            by_cases hnum : -400000000 ≤ z ∧ z ≤ 400000000
            · go_wp2_with fail
              refine (sIsNum_t z _ hnum.1 hnum.2).mono ?_
              rintro e w' ⟨rfl, rfl⟩
              go_wp2_with fail
              go_round
              case rel =>
                refine ⟨k + 1, by go_num, by omega, fun j hj => ?_⟩
                rcases Nat.lt_or_ge j k with h' | h'
                · exact HA.out j h'
                · obtain rfl : j = k := by omega
                  rw [Z.out]; exact hnum
              case measure => simp [intOf]; omega
            · have E3 : Hid (isMat r c zs = false) := by
                show isMat r c zs = false
                rw [E2.out]; exact nums_false (by rw [HN.out]; exact hlt) (by rw [Z.out]; exact hnum)
              have hnum' : z < -400000000 ∨ 400000000 < z := by omega
              clear hnum
              go_wp2_with fail
              refine (sIsNum_f z _ hnum').mono ?_
              rintro e w' ⟨rfl, rfl⟩
              go_wp2_with fail
              go_ret
              exact ⟨by rw [E3.out]; rfl, BH.out _⟩
          · have hkn : k = n := by omega
            subst hkn
            have E3 : Hid (isMat r c zs = true) := by
              show isMat r c zs = true
              rw [E2.out]; exact nums_true (fun j hj => HA.out j (by rw [HN.out] at hj; exact hj))
            go_wp2_with fail
            go_ret
            exact ⟨by rw [E3.out]; rfl, BH.out _⟩
      · have l1 : ((n : Int) != r * c) = true := by simpa using hl
        have l2 : ((n : Int) == r * c) = false := by simpa using hl
        have E2 : Hid (isMat r c zs = false) := by
          show isMat r c zs = false
          rw [E.out, show decide ((n : Int) = r * c) = false from decide_eq_false hl]; simp
        clear hl
        obtain ⟨r1, r2⟩ := hr
        obtain ⟨c1, c2⟩ := hc
        go_enter Tryz.func19, Tryz.ntmps19
        go_wp2_with (go_at_call 55; refine (sIn_t _ _ _ _ (by omega) (by omega)).mono ?_; rintro e w' ⟨rfl, rfl⟩)
        go_ret
        exact ⟨by rw [E2.out]; rfl, BH.out _⟩
    · have E2 : Hid (isMat r c zs = false) := by
        show isMat r c zs = false
        rw [E.out, show decide (SizeP c) = false from decide_eq_false hc]; simp
      have hc' : c < 0 ∨ 24 < c := by omega
      clear hc
      go_enter Tryz.func19, Tryz.ntmps19
      go_wp2_with fail
      refine (sIn_t r 0 24 _ hr.1 hr.2).mono ?_
      rintro e w' ⟨rfl, rfl⟩
      go_wp2_with fail
      refine (sIn_f c 0 24 _ hc').mono ?_
      rintro e w' ⟨rfl, rfl⟩
      go_wp2_with fail
      go_ret
      exact ⟨by rw [E2.out]; rfl, BH.out _⟩
  · have E2 : Hid (isMat r c zs = false) := by
      show isMat r c zs = false
      rw [E.out, show decide (SizeP r) = false from decide_eq_false hr]; simp
    have hr' : r < 0 ∨ 24 < r := by omega
    clear hr
    go_enter Tryz.func19, Tryz.ntmps19
    go_wp2_with fail
    refine (sIn_f r 0 24 _ hr').mono ?_
    rintro e w' ⟨rfl, rfl⟩
    go_wp2_with fail
    go_ret
    exact ⟨by rw [E2.out]; rfl, BH.out _⟩
end Go.Proofs.YtcapddcmnjeloaaGreatDoor
end

section
/-
  Frames: of the blocks that were there only those of a given kind may have changed; rows of ints with their capacity. No function of the program is named.
-/
namespace Go.Proofs.YtcapddcmnjeloaaGreatDoor
open Go.RowKit
structure FrS (p : Nat → Prop) (w w' : World) : Prop where
  os : w'.os = w.os
  tape : w'.tape = w.tape
  output : w'.output = w.output
  size : w.heap.size ≤ w'.heap.size
  block : ∀ k, k < w.heap.size → ¬ p k → w'.heap[k]? = w.heap[k]?
theorem FrS.refl (p : Nat → Prop) (w : World) : FrS p w w := ⟨rfl, rfl, rfl, Nat.le_refl _, fun _ _ _ => rfl⟩
theorem FrS.trans {p : Nat → Prop} {w w1 w2 : World} (h : FrS p w w1) (h' : FrS p w1 w2) : FrS p w w2 :=
  ⟨h'.os.trans h.os, h'.tape.trans h.tape, h'.output.trans h.output, Nat.le_trans h.size h'.size, fun k hk hp => (h'.block k (Nat.lt_of_lt_of_le hk h.size) hp).trans (h.block k hk hp)⟩
theorem FrS.of_one {p : Nat → Prop} {w w' : World} {g : Nat} (h : w.grownBy w' (some g)) (hp : p g) : FrS p w w' :=
  ⟨h.os, h.tape, h.output, h.size, fun k hk hn => h.block k hk (by rintro e; injection e with e; subst e; exact hn hp)⟩
theorem FrS.of_below {p : Nat → Prop} {w w' : World} (h : Below w.heap.size w w') : FrS p w w' := ⟨h.os, h.tape, h.output, h.size, fun k hk _ => h.block k hk⟩
theorem FrS.drew {p : Nat → Prop} {w w' : World} (h : FrS p w w') : FrS p w w'.drew := ⟨h.os, h.tape, h.output, h.size, h.block⟩
theorem FrS.set {p : Nat → Prop} {w w' : World} (h : FrS p w w') {a : Addr} (ha : p a.block ∨ w.heap.size ≤ a.block) (u : Value) : FrS p w (w'.setCell a u) :=
  ⟨h.os, h.tape, h.output, by simpa [World.setCell] using h.size, fun k hk hp => (Below.heap_setCell w' a u k (by rintro rfl; rcases ha with ha | ha; exact hp ha; omega)).trans (h.block k hk hp)⟩
theorem FrS.alloc {p : Nat → Prop} {w w' : World} (h : FrS p w w') (o : Obj) : FrS p w (w'.alloc o) := h.trans (FrS.of_below ((Below.refl _ _).alloc (Nat.le_refl _) o))
theorem FrS.one {w w' : World} {g : Nat} {p : Nat → Prop} (h : FrS p w w') (hp : ∀ k, k < w.heap.size → p k → k = g) : w.grownBy w' (some g) :=
  ⟨h.os, h.tape, h.output, h.size, fun k hk hn => h.block k hk (fun hpk => hn (by rw [hp k hk hpk]))⟩
theorem FrS.below {w w' : World} {B : Nat} {p : Nat → Prop} (h : FrS p w w') (hp : ∀ k, p k → B ≤ k) (hB : B ≤ w.heap.size) : Below B w w' :=
  ⟨h.os, h.tape, h.output, h.size, fun k hk => h.block k (by omega) (fun hpk => by have := hp k hpk; omega)⟩
theorem FrS.mono {p q : Nat → Prop} {w w' : World} (h : FrS p w w') (hq : ∀ k, p k → q k) : FrS q w w' := ⟨h.os, h.tape, h.output, h.size, fun k hk hn => h.block k hk (fun hp => hn (hq k hp))⟩
theorem Blk3.frs {w w' : World} {b : Nat} {t : TypeId} {x y z : Value} {p : Nat → Prop} (h : Blk3 w b t x y z) (hf : FrS p w w') (hb : ¬ p b) : Blk3 w' b t x y z := (hf.block b h.lt hb).trans h
theorem Rd.frs {w w' : World} {a : Option Addr} {zs : List Int} {p : Nat → Prop} (h : Rd w a zs) (hf : FrS p w w') (hb : ∀ b o : Nat, a = some ⟨b, o, none⟩ → ¬ p b) : Rd w' a zs := fun i hi => by
  obtain ⟨b, o, ha, hc⟩ := h i hi
  have hl := World.block_lt_of_cell? w _ hc
  exact ⟨b, o, ha, (World.cell?_of_block (w := w) (hf.block b (by simpa using hl) (hb b o ha))).trans hc⟩
def IntsC (w : World) (g cap : Nat) (zs : List Int) : Prop := cap ≤ maxLen ∧ ∃ rest : List Value, zs.length + rest.length = cap ∧ w.heap[g]? = some (.cells (zs.map (Value.int .i64) ++ rest).toArray 3 (0, 0))
theorem IntsC.ints {w : World} {g cap : Nat} {zs : List Int} (h : IntsC w g cap zs) : Ints w g zs := by
  obtain ⟨_, rest, _, h⟩ := h
  exact ⟨rest, h⟩
theorem IntsC.lt {w : World} {g cap : Nat} {zs : List Int} (h : IntsC w g cap zs) : g < w.heap.size := h.ints.lt
theorem IntsC.le {w : World} {g cap : Nat} {zs : List Int} (h : IntsC w g cap zs) : zs.length ≤ cap := by
  obtain ⟨_, rest, h, _⟩ := h
  omega
theorem IntsC.move {w w' : World} {g cap : Nat} {zs : List Int} (h : IntsC w g cap zs) (e : w'.heap[g]? = w.heap[g]?) : IntsC w' g cap zs := by
  obtain ⟨h0, rest, h1, h2⟩ := h
  exact ⟨h0, rest, h1, e.trans h2⟩
theorem IntsC.frs {w w' : World} {g cap : Nat} {zs : List Int} {p : Nat → Prop} (h : IntsC w g cap zs) (hf : FrS p w w') (hb : ¬ p g) : IntsC w' g cap zs := h.move (hf.block g h.lt hb)
theorem IntsC.drew {w : World} {g cap : Nat} {zs : List Int} (h : IntsC w g cap zs) : IntsC w.drew g cap zs := h
theorem IntsC.old {w : World} {g cap : Nat} {zs : List Int} (h : IntsC w g cap zs) (o : Obj) : IntsC (w.alloc o) g cap zs := h.move (Below.heap_alloc w o g h.lt)
theorem IntsC.far {w : World} {g cap : Nat} {zs : List Int} (h : IntsC w g cap zs) {a : Addr} (ha : g ≠ a.block) (u : Value) : IntsC (w.setCell a u) g cap zs := h.move (Below.heap_setCell w a u g ha)
theorem IntsC.set {w : World} {g cap : Nat} {zs : List Int} (h : IntsC w g cap zs) (i : Nat) (hi : i < zs.length) (z : Int) : IntsC (w.setCell ⟨g, i, none⟩ (.int .i64 z)) g cap (zs.set i z) := by
  obtain ⟨h0, rest, h1, h2⟩ := h
  refine ⟨h0, rest, by simpa using h1, ?_⟩
  simp [World.setCell, Array.getElem?_modify, h2, hi]
theorem IntsC.made {w : World} {g : Nat} (n : Nat) (hn : n ≤ 16777216) (hg : g = w.heap.size) : IntsC (w.alloc (.cells (madeCells #[.int .i64 0] n) 3)) g n (List.replicate n 0) := by
  subst hg
  refine ⟨by unfold maxLen; omega, [], by simp, ?_⟩
  rw [madeCells_ints, List.append_nil]
  exact heap_alloc_new w _
theorem IntsC.row {w : World} {B g cap : Nat} {zs : List Int} (h : IntsC w g cap zs) (hB : B ≤ g) : w.ownsRow B 3 1 (.slice (some ⟨g, 0, none⟩) zs.length cap) zs.length (zs.map (Value.int .i64)) := by
  obtain ⟨h0, rest, h1, h2⟩ := h
  refine ⟨by simp, .inr ⟨g, cap, _, rfl, hB, h2, by omega, h0, by simp; omega, by simp⟩⟩
def OwnC (B : Nat) (w : World) (v : Value) (zs : List Int) : Prop := (v = .slice none 0 0 ∧ zs = []) ∨ ∃ g cap : Nat, v = .slice (some ⟨g, 0, none⟩) zs.length cap ∧ B ≤ g ∧ IntsC w g cap zs
theorem OwnC.of_row {B : Nat} {w : World} {v : Value} {zs : List Int} (h : w.ownsRow B 3 1 v zs.length (zs.map (Value.int .i64))) : OwnC B w v zs := by
  rcases h.2 with ⟨rfl, h0⟩ | ⟨g, cap, cur, rfl, hB, hg, hc, hm, hs, ht⟩
  · exact .inl ⟨rfl, List.eq_nil_of_length_eq_zero h0⟩
  · refine .inr ⟨g, cap, rfl, hB, hm, cur.toList.drop zs.length, ?_, ?_⟩
    · have : cur.toList.length = cap := by rw [Array.length_toList, hs, Nat.mul_one]
      rw [List.length_drop]; omega
    · rw [hg]
      congr 2
      rw [Nat.mul_one] at ht
      rw [← ht, List.take_append_drop]
theorem OwnC.own {B : Nat} {w : World} {v : Value} {zs : List Int} (h : OwnC B w v zs) (hl : zs.length ≤ 16777216) : Own B w v zs := by
  rcases h with h | ⟨g, cap, hv, hB, hi⟩
  · exact .inl h
  · exact .inr ⟨g, cap, hv, hB, hi.ints, hi.le, hl⟩
theorem OwnC.frs {B : Nat} {w w' : World} {v : Value} {zs : List Int} {p : Nat → Prop} (h : OwnC B w v zs) (hf : FrS p w w') (hp : ∀ k, B ≤ k → ¬ p k) : OwnC B w' v zs := by
  rcases h with h | ⟨g, cap, hv, hB, hi⟩
  · exact .inl h
  · exact .inr ⟨g, cap, hv, hB, hi.frs hf (hp g hB)⟩
end Go.Proofs.YtcapddcmnjeloaaGreatDoor
end

section
/-
  Steps inside a region that draws: append of ints; frames of three stores. No function of the program is named.
-/
namespace Go.Proofs.YtcapddcmnjeloaaGreatDoor
set_option maxRecDepth 100000
open Go.RowKit
theorem news_ints (ys : List Int) (j : Nat) (u : Value) (h : (ys.map (Value.int .i64))[j]? = some u) : j < ys.length ∧ u = .int .i64 (ys.getD j 0) := by
  rw [List.getElem?_map] at h
  obtain ⟨z, hz, rfl⟩ := Option.map_eq_some_iff.mp h
  obtain ⟨h1, h2⟩ := List.getElem?_eq_some_iff.mp hz
  exact ⟨h1, by simp [List.getD, hz]⟩
theorem FrS.mono2 {p q : Nat → Prop} {w w' : World} (h : FrS p w w') (hq : ∀ k, k < w.heap.size → p k → q k) : FrS q w w' := ⟨h.os, h.tape, h.output, h.size, fun k hk hn => h.block k hk (fun hp => hn (hq k hk hp))⟩
theorem FrS.set3 {p : Nat → Prop} {w w' : World} {b : Nat} (h : FrS p w w') (hb : p b ∨ w.heap.size ≤ b) (x y z : Value) : FrS p w (((w'.setCell ⟨b, 0, none⟩ x).setCell ⟨b, 1, none⟩ y).setCell ⟨b, 2, none⟩ z) := ((h.set hb x).set hb y).set hb z
theorem Blk3.set3 {w : World} {b : Nat} {t : TypeId} {p q r : Value} (h : Blk3 w b t p q r) (x y z : Value) : Blk3 (((w.setCell ⟨b, 0, none⟩ x).setCell ⟨b, 1, none⟩ y).setCell ⟨b, 2, none⟩ z) b t x y z := ((h.set0 x).set1 y).set2 z
theorem OwnC.frs2 {B : Nat} {w w' : World} {v : Value} {zs : List Int} {p : Nat → Prop} (h : OwnC B w v zs) (hf : FrS p w w') (hp : ∀ k, B ≤ k → k < w.heap.size → ¬ p k) : OwnC B w' v zs := by
  rcases h with h | ⟨g, cap, hv, hB, hi⟩
  · exact .inl h
  · exact .inr ⟨g, cap, hv, hB, hi.frs hf (hp g hB hi.lt)⟩
theorem FrS.transR {p q : Nat → Prop} {w w1 w2 : World} (h : FrS p w w1) (h' : FrS q w1 w2) (hq : ∀ k, k < w.heap.size → q k → p k) : FrS p w w2 :=
  ⟨h'.os.trans h.os, h'.tape.trans h.tape, h'.output.trans h.output, Nat.le_trans h.size h'.size, fun k hk hp => (h'.block k (Nat.lt_of_lt_of_le hk h.size) (fun hqk => hp (hq k hk hqk))).trans (h.block k hk hp)⟩
theorem ownBlock_ge {w : World} {base n k : Nat} {e : TypeId} {size : Nat} {v : Value} {xs : List Value} (h : w.ownsRow base e size v n xs) (hk : v.ownBlock = some k) : base ≤ k := by
  rcases h.2 with ⟨rfl, -⟩ | ⟨g, cap, cur, rfl, hB, -⟩
  · cases hk
  · simp [Value.ownBlock] at hk; omega
theorem Own.far {B : Nat} {w : World} {v : Value} {zs : List Int} (h : Own B w v zs) {a : Addr} (ha : a.block < B) (u : Value) : Own B (w.setCell a u) v zs := by
  rcases h with h | ⟨g, cap, hv, hB, hi, hl, hc⟩
  · exact .inl h
  · exact .inr ⟨g, cap, hv, hB, hi.far (by omega) u, hl, hc⟩
theorem step_append {P : Program} {ops : Array Oper} {o : Oper} {a : Act} {w : World} {K : Act → World → Prop} {Q : Exit → Act → World → Prop} {E : Prop}
    (hg : o.guard = none) (s x : Operand) (t : TypeId) (hop : o.op = Op.call { callee := Callee.builtin Builtin.append, args := #[s, x], argTypes := #[t, t] }) (v1 v2 : Value) (hs : a.eval s = v1) (hx : a.eval x = v2) (v' : Value) (w' : World)
    (hr : (Builtin.append_ #[t, t] o.type #[v1, v2]).run P w = .ok v' w') (hK : K (a.put o.dst v') w') : if Region.wanted o (yielded ops a.tmps) = true then Oper.wp P o a w K Q else E := by
  have hw : Region.wanted o (yielded ops a.tmps) = true := by simp [Region.wanted, hg]
  rw [if_pos hw]
  unfold Oper.wp
  simp only [execOp, hop, resolve, invoke, builtin, Sem.run_bind, Sem.run_pure, Result.andThen_ok, List.map_toArray, List.map_cons, List.map_nil, hs, hx, hr]
  exact hK
theorem appendInts (w : World) (base n m c : Nat) (v : Value) (xs ys : List Int) (ga oa : Nat) (hown : w.ownsRow base 3 1 v n (xs.map (Value.int .i64))) (h : Rd w (some ⟨ga, oa, none⟩) ys) (hy : ys.length = m) (hb : n + m ≤ 16777216) (hB : base ≤ w.heap.size) :
    ∃ v' w', (Builtin.append_ #[24, 24] 24 #[v, .slice (some ⟨ga, oa, none⟩) m c]).run Tryz.prog w = .ok v' w' ∧ w'.ownsRow base 3 1 v' (n + m) ((xs ++ ys).map (Value.int .i64)) ∧ w.grownBy w' v.ownBlock := by
  obtain ⟨fi, hfi, hz0, hz1, hz2⟩ := facts_int
  have news : ∀ (j : Nat) u, (ys.map (Value.int .i64))[j]? = some u → w.cell? ((⟨ga, oa, none⟩ : Addr).add j) = some u := by
    intro j u hu
    obtain ⟨hj, rfl⟩ := news_ints _ j u hu
    obtain ⟨b', o', e, hc⟩ := h j hj
    injection e with e
    injection e with e1 e2
    subst e1 e2
    rw [show (⟨ga, oa, none⟩ : Addr).add j = ⟨ga, oa + j, none⟩ by simp only [Addr.add]; split <;> simp_all]
    exact hc
  obtain ⟨v', w', hr, h2, h3, -, -⟩ := run_append_own_at (P := Tryz.prog) w base 24 24 3 fi (.int .i64 0) 1 8 underlying_ints hfi hz0 hz1 hz2 rfl (by decide) v n _ hown ⟨ga, oa, none⟩ m c (ys.map (Value.int .i64)) (by rw [List.length_map, hy, Nat.mul_one]) news
    (by intro u hu; obtain ⟨z, -, rfl⟩ := List.mem_map.mp hu; rfl) (by unfold maxLen; omega) (by omega) hB
  exact ⟨v', w', hr, by rw [List.map_append]; exact h2, h3⟩
theorem appendInts2 (w : World) (base n m c : Nat) (v : Value) (xs ys : List Int) (ga oa : Nat) (hown : w.ownsRow base 3 1 v n (xs.map (Value.int .i64))) (h : Rd w (some ⟨ga, oa, none⟩) ys) (hy : ys.length = m) (hb : n + m ≤ 16777216) (hB : base ≤ w.heap.size) :
    ∃ v' w', (Builtin.append_ #[24, 24] 24 #[v, .slice (some ⟨ga, oa, none⟩) m c]).run Tryz.prog w = .ok v' w' ∧ w'.ownsRow base 3 1 v' (n + m) ((xs ++ ys).map (Value.int .i64)) ∧ w.grownBy w' v.ownBlock ∧ (v' = .slice none 0 0 ↔ v = .slice none 0 0 ∧ m = 0) := by
  obtain ⟨fi, hfi, hz0, hz1, hz2⟩ := facts_int
  have news : ∀ (j : Nat) u, (ys.map (Value.int .i64))[j]? = some u → w.cell? ((⟨ga, oa, none⟩ : Addr).add j) = some u := by
    intro j u hu
    obtain ⟨hj, rfl⟩ := news_ints _ j u hu
    obtain ⟨b', o', e, hc⟩ := h j hj
    injection e with e
    injection e with e1 e2
    subst e1 e2
    rw [show (⟨ga, oa, none⟩ : Addr).add j = ⟨ga, oa + j, none⟩ by simp only [Addr.add]; split <;> simp_all]
    exact hc
  obtain ⟨v', w', hr, h2, h3, h4, -⟩ := run_append_own_at (P := Tryz.prog) w base 24 24 3 fi (.int .i64 0) 1 8 underlying_ints hfi hz0 hz1 hz2 rfl (by decide) v n _ hown ⟨ga, oa, none⟩ m c (ys.map (Value.int .i64)) (by rw [List.length_map, hy, Nat.mul_one]) news
    (by intro u hu; obtain ⟨z, -, rfl⟩ := List.mem_map.mp hu; rfl) (by unfold maxLen; omega) (by omega) hB
  exact ⟨v', w', hr, by rw [List.map_append]; exact h2, h3, h4⟩
theorem sevenF {W w' : World} {b : Nat} {t : TypeId} {p q r : Value} {pr : Nat → Prop} (h0 : Blk3 W b t p q r) (hg : FrS pr W w') (hb : ¬ pr b) :
    w'.cell? ⟨b, 0, none⟩ = some p ∧ w'.cell? ⟨b, 1, none⟩ = some q ∧ w'.cell? ⟨b, 2, none⟩ = some r :=
  ⟨(h0.frs hg hb).cell0, (h0.frs hg hb).cell1, (h0.frs hg hb).cell2⟩
end Go.Proofs.YtcapddcmnjeloaaGreatDoor
end
