/-
  Determinants: expansion along the first column; linear in each row; 0 where two rows are equal. Plain mathematics: nothing of a program is used.
-/
import Derived.Test.YtpelnfenfeoeeaaSumMath
namespace Go.Proofs.Ytpelnfenfeoeeaa

/-! ### Sums -/
theorem sumN_first (n : Nat) (f : Nat → Int) : sumN (n + 1) f = f 0 + sumN n (fun i => f (i + 1)) := by
  induction n with
  | zero => show 0 + f 0 = f 0 + 0; omega
  | succ n ih =>
    show sumN (n + 1) f + f (n + 1) = f 0 + (sumN n (fun i => f (i + 1)) + f (n + 1))
    rw [ih]; omega
theorem sumN_all_zero {n : Nat} {f : Nat → Int} (h : ∀ k, k < n → f k = 0) : sumN n f = 0 := by
  rw [sumN_congr h]; exact sumN_zero n
theorem sumN_one {n a : Nat} {f : Nat → Int} (ha : a < n) (h : ∀ k, k < n → k ≠ a → f k = 0) : sumN n f = f a := by
  induction n with
  | zero => omega
  | succ n ih =>
    show sumN n f + f n = f a
    rcases Nat.lt_or_ge a n with h1 | h1
    · rw [ih h1 (fun k hk hne => h k (by omega) hne), h n (by omega) (by omega)]; omega
    · obtain rfl : a = n := by omega
      rw [sumN_all_zero (fun k hk => h k (by omega) (by omega))]; omega
theorem sumN_two {n a b : Nat} {f : Nat → Int} (ha : a < b) (hb : b < n) (h : ∀ k, k < n → k ≠ a → k ≠ b → f k = 0) : sumN n f = f a + f b := by
  have e : sumN n f = sumN n (fun k => (if k = a then f a else 0) + (if k = b then f b else 0)) := by
    refine sumN_congr fun k hk => ?_
    by_cases h1 : k = a
    · subst h1; rw [if_pos rfl, if_neg (by omega)]; omega
    · by_cases h2 : k = b
      · subst h2; rw [if_neg h1, if_pos rfl]; omega
      · rw [if_neg h1, if_neg h2, h k hk h1 h2]; rfl
  rw [e, sumN_add, sumN_one (a := a) (by omega) (fun k _ hk => if_neg hk), sumN_one (a := b) hb (fun k _ hk => if_neg hk), if_pos rfl, if_pos rfl]

/-! ### Signs, places -/
def sg (k : Nat) : Int := if k % 2 = 0 then 1 else -1
theorem sg_zero : sg 0 = 1 := rfl
theorem sg_succ (k : Nat) : sg (k + 1) = -sg k := by
  unfold sg
  by_cases h : k % 2 = 0
  · rw [if_pos h, if_neg (by omega)]
  · rw [if_neg h, if_pos (by omega)]; rfl
theorem sg_add (a b : Nat) : sg (a + b) = sg a * sg b := by
  induction b with
  | zero => rw [Nat.add_zero, sg_zero, Int.mul_one]
  | succ b ih => rw [← Nat.add_assoc, sg_succ, sg_succ, ih, Int.mul_neg]
theorem sg_sq (a : Nat) : sg a * sg a = 1 := by
  unfold sg
  split <;> rfl
/-- All numbers but j, in order. -/
def skp (j k : Nat) : Nat := if k < j then k else k + 1
def unskp (j k : Nat) : Nat := if k < j then k else k - 1
theorem skp_ne (j k : Nat) : skp j k ≠ j := by unfold skp; split <;> omega
theorem skp_lt {j k n : Nat} (h : k < n) : skp j k < n + 1 := by unfold skp; split <;> omega
theorem skp_unskp {j k : Nat} (h : k ≠ j) : skp j (unskp j k) = k := by
  unfold skp unskp
  by_cases h1 : k < j
  · rw [if_pos h1, if_pos h1]
  · rw [if_neg h1, if_neg (by omega)]; omega
theorem unskp_skp (j k : Nat) : unskp j (skp j k) = k := by
  unfold skp unskp
  by_cases h1 : k < j
  · rw [if_pos h1, if_pos h1]
  · rw [if_neg h1, if_neg (by omega)]; omega
theorem unskp_lt {j k n : Nat} (h : k ≠ j) (hk : k < n + 1) (hj : j < n + 1) : unskp j k < n := by unfold unskp; split <;> omega
theorem skp_zero (k : Nat) : skp 0 k = k + 1 := by unfold skp; rw [if_neg (by omega)]
theorem skp_succ (j k : Nat) : skp (j + 1) (k + 1) = skp j k + 1 := by
  unfold skp
  by_cases h : k < j
  · rw [if_pos h, if_pos (by omega)]
  · rw [if_neg h, if_neg (by omega)]
theorem skp_first (j : Nat) (h : 0 < j) : skp j 0 = 0 := by unfold skp; rw [if_pos h]
theorem skp_inj {j k l : Nat} (h : skp j k = skp j l) : k = l := by rw [← unskp_skp j k, h, unskp_skp]

/-! ### Matrices as functions -/
abbrev Mx : Type := Nat → Nat → Int
/-- Equal within n rows and n columns. -/
def EqX (n : Nat) (A B : Mx) : Prop := ∀ r c, r < n → c < n → A r c = B r c
theorem EqX.symm {n : Nat} {A B : Mx} (h : EqX n A B) : EqX n B A := fun r c hr hc => (h r c hr hc).symm
theorem EqX.refl (n : Nat) (A : Mx) : EqX n A A := fun _ _ _ _ => rfl
def mnr (A : Mx) (i j : Nat) : Mx := fun r c => A (skp i r) (skp j c)
def stR (A : Mx) (r : Nat) (v : Nat → Int) : Mx := fun i j => if i = r then v j else A i j
theorem stR_at (A : Mx) (r : Nat) (v : Nat → Int) (c : Nat) : stR A r v r c = v c := if_pos rfl
theorem stR_ne (A : Mx) (r i : Nat) (v : Nat → Int) (c : Nat) (h : i ≠ r) : stR A r v i c = A i c := if_neg h
theorem stR_self (A : Mx) (r : Nat) : stR A r (A r) = A := by
  funext i j
  unfold stR
  split
  · rename_i h; rw [h]
  · rfl
theorem EqX.mnr {n i j : Nat} {A B : Mx} (h : EqX (n + 1) A B) : EqX n (mnr A i j) (mnr B i j) := fun _ _ hr hc => h _ _ (skp_lt hr) (skp_lt hc)
/-- The determinant, expanded along the first column. -/
def det : Nat → Mx → Int
  | 0, _ => 1
  | n + 1, A => sumN (n + 1) fun i => sg i * A i 0 * det n (mnr A i 0)
theorem det_succ (n : Nat) (A : Mx) : det (n + 1) A = sumN (n + 1) fun i => sg i * A i 0 * det n (mnr A i 0) := rfl
theorem det_congr {n : Nat} {A B : Mx} (h : EqX n A B) : det n A = det n B := by
  induction n generalizing A B with
  | zero => rfl
  | succ n ih =>
    rw [det_succ, det_succ]
    refine sumN_congr fun i hi => ?_
    rw [h i 0 hi (by omega), ih h.mnr]
theorem mnr_stR_same (A : Mx) (r j : Nat) (v : Nat → Int) : mnr (stR A r v) r j = mnr A r j := by
  funext i c
  exact stR_ne A r _ v _ (skp_ne r i)
theorem mnr_stR (A : Mx) (i r j : Nat) (v : Nat → Int) (h : r ≠ i) : mnr (stR A r v) i j = stR (mnr A i j) (unskp i r) (fun c => v (skp j c)) := by
  funext k c
  show (if skp i k = r then v (skp j c) else A (skp i k) (skp j c)) = if k = unskp i r then v (skp j c) else A (skp i k) (skp j c)
  by_cases e : k = unskp i r
  · rw [if_pos e, if_pos (by rw [e]; exact skp_unskp h)]
  · rw [if_neg e, if_neg (fun e2 => e (by rw [← e2, unskp_skp]))]

/-! ### Functions of rows -/
/-- Depends on the entries within n rows and columns. -/
def Loc (n : Nat) (f : Mx → Int) : Prop := ∀ A B, EqX n A B → f A = f B
/-- Linear in each row. -/
def Lin (n : Nat) (f : Mx → Int) : Prop := ∀ (A : Mx) (r : Nat) (u v : Nat → Int) (x y : Int), r < n → f (stR A r fun c => x * u c + y * v c) = x * f (stR A r u) + y * f (stR A r v)
/-- 0 where rows r and s are equal. -/
def AltAt (n r s : Nat) (f : Mx → Int) : Prop := ∀ A, (∀ c, c < n → A r c = A s c) → f A = 0
def Alt (n : Nat) (f : Mx → Int) : Prop := ∀ r s, r < s → s < n → AltAt n r s f

theorem det_loc (n : Nat) : Loc n (det n) := fun _ _ h => det_congr h
theorem det_lin (n : Nat) : Lin n (det n) := by
  induction n with
  | zero => intro A r u v x y hr; omega
  | succ n ih =>
    intro A r u v x y hr
    rw [det_succ, det_succ, det_succ, sumN_mul_left, sumN_mul_left, ← sumN_add]
    refine sumN_congr fun i hi => ?_
    by_cases h : i = r
    · subst h
      rw [stR_at, stR_at, stR_at, mnr_stR_same, mnr_stR_same, mnr_stR_same]
      generalize det n (mnr A i 0) = d
      generalize sg i = s
      grind
    · rw [stR_ne _ _ _ _ _ h, stR_ne _ _ _ _ _ h, stR_ne _ _ _ _ _ h, mnr_stR _ _ _ _ _ (Ne.symm h), mnr_stR _ _ _ _ _ (Ne.symm h), mnr_stR _ _ _ _ _ (Ne.symm h)]
      rw [ih (mnr A i 0) (unskp i r) (fun c => u (skp 0 c)) (fun c => v (skp 0 c)) x y (unskp_lt (Ne.symm h) hr hi)]
      generalize det n (stR (mnr A i 0) (unskp i r) fun c => u (skp 0 c)) = d
      generalize det n (stR (mnr A i 0) (unskp i r) fun c => v (skp 0 c)) = e
      generalize sg i = s
      grind
theorem det_adj (n : Nat) : ∀ r, r + 1 < n → AltAt n r (r + 1) (det n) := by
  induction n with
  | zero => intro r hr; omega
  | succ n ih =>
    intro r hr A hA
    rw [det_succ, sumN_two (a := r) (b := r + 1) (by omega) hr]
    · have e : EqX n (mnr A (r + 1) 0) (mnr A r 0) := fun k c hk hc => by
        show A (skp (r + 1) k) (skp 0 c) = A (skp r k) (skp 0 c)
        by_cases h : k = r
        · subst h
          have e1 : skp (k + 1) k = k := by unfold skp; rw [if_pos (by omega)]
          have e2 : skp k k = k + 1 := by unfold skp; rw [if_neg (by omega)]
          rw [e1, e2]
          exact hA _ (skp_lt hc)
        · have e1 : skp (r + 1) k = skp r k := by
            unfold skp
            by_cases h1 : k < r
            · rw [if_pos h1, if_pos (by omega)]
            · rw [if_neg h1, if_neg (by omega)]
          rw [e1]
      rw [det_congr e, sg_succ, hA 0 (by omega)]
      generalize det n (mnr A r 0) = d
      generalize sg r = s
      grind
    · intro i hi h1 h2
      have hz : det n (mnr A i 0) = 0 := by
        rcases Nat.lt_or_ge i r with h | h
        · refine ih (r - 1) (by omega) _ fun c hc => ?_
          show A (skp i (r - 1)) (skp 0 c) = A (skp i (r - 1 + 1)) (skp 0 c)
          have e1 : skp i (r - 1) = r := by unfold skp; rw [if_neg (by omega)]; omega
          have e2 : skp i (r - 1 + 1) = r + 1 := by unfold skp; rw [if_neg (by omega)]; omega
          rw [e1, e2]
          exact hA _ (skp_lt hc)
        · refine ih r (by omega) _ fun c hc => ?_
          show A (skp i r) (skp 0 c) = A (skp i (r + 1)) (skp 0 c)
          have e1 : skp i r = r := by unfold skp; rw [if_pos (by omega)]
          have e2 : skp i (r + 1) = r + 1 := by unfold skp; rw [if_pos (by omega)]
          rw [e1, e2]
          exact hA _ (skp_lt hc)
      rw [hz, Int.mul_zero]

/-- Rows r and s change places. -/
def swR (A : Mx) (r s : Nat) : Mx := fun i j => if i = r then A s j else if i = s then A r j else A i j
theorem swap_of {n r s : Nat} {f : Mx → Int} (hl : Lin n f) (ha : AltAt n r s f) (hrs : r ≠ s) (hr : r < n) (hs : s < n) (A : Mx) : f (swR A r s) = -f A := by
  have L1 : ∀ (A : Mx) (q : Nat) (u v : Nat → Int), q < n → f (stR A q fun c => u c + v c) = f (stR A q u) + f (stR A q v) := fun A q u v hq => by
    have := hl A q u v 1 1 hq
    simp only [Int.one_mul] at this
    exact this
  have ee : ∀ u : Nat → Int, f (stR (stR A r u) s u) = 0 := fun u => ha _ fun c _ => by
    rw [stR_at, stR_ne _ _ _ _ _ hrs, stR_at]
  have h0 := ee (fun c => A r c + A s c)
  rw [L1 _ s _ _ hs] at h0
  have c1 : ∀ u v : Nat → Int, stR (stR A r u) s v = stR (stR A s v) r u := fun u v => by
    funext i j
    unfold stR
    by_cases h1 : i = s
    · subst h1; rw [if_pos rfl, if_neg (Ne.symm hrs), if_pos rfl]
    · rw [if_neg h1]
      by_cases h2 : i = r
      · rw [if_pos h2, if_pos h2]
      · rw [if_neg h2, if_neg h2, if_neg h1]
  rw [c1, c1, L1 _ r _ _ hr, L1 _ r _ _ hr, ← c1, ← c1, ← c1, ← c1, ee, ee] at h0
  have e1 : stR (stR A r (A r)) s (A s) = A := by rw [stR_self, stR_self]
  have e2 : stR (stR A r (A s)) s (A r) = swR A r s := by
    funext i j
    unfold stR swR
    by_cases h1 : i = s
    · subst h1; rw [if_pos rfl, if_neg (Ne.symm hrs), if_pos rfl]
    · rw [if_neg h1, if_neg h1]
  rw [e1, e2] at h0
  omega
theorem det_alt (n : Nat) : Alt n (det n) := by
  have key : ∀ d r, r + d + 1 < n → AltAt n r (r + d + 1) (det n) := by
    intro d
    induction d with
    | zero => intro r hr; exact det_adj n r hr
    | succ d ih =>
      intro r hr A hA
      have h1 := swap_of (det_lin n) (det_adj n (r + d + 1) hr) (by omega) (by omega) hr A
      have h2 := ih r (by omega) (swR A (r + d + 1) (r + d + 1 + 1)) fun c hc => by
        unfold swR
        rw [if_neg (by omega), if_neg (by omega), if_pos rfl]
        exact hA c hc
      rw [h2] at h1
      omega
  intro r s hrs hs
  obtain ⟨d, rfl⟩ : ∃ d, s = r + d + 1 := ⟨s - r - 1, by omega⟩
  exact key d r hs
theorem alt_at {n r s : Nat} {f : Mx → Int} (ha : Alt n f) (hrs : r ≠ s) (hr : r < n) (hs : s < n) : AltAt n r s f := by
  rcases Nat.lt_or_ge r s with h | h
  · exact ha r s h hs
  · exact fun A hA => ha s r (by omega) hr A fun c hc => (hA c hc).symm
theorem alt_swap {n r s : Nat} {f : Mx → Int} (hl : Lin n f) (ha : Alt n f) (hrs : r ≠ s) (hr : r < n) (hs : s < n) (A : Mx) : f (swR A r s) = -f A :=
  swap_of hl (alt_at ha hrs hr hs) hrs hr hs A
theorem lin_zero {n r : Nat} {f : Mx → Int} (hl : Lin n f) (hr : r < n) (A : Mx) : f (stR A r fun _ => 0) = 0 := by
  have := hl A r (fun _ => 0) (fun _ => 0) 0 0 hr
  simp only [Int.zero_mul, Int.add_zero] at this
  exact this
theorem lin_scale {n r : Nat} {f : Mx → Int} (hl : Lin n f) (hr : r < n) (A : Mx) (x : Int) (u : Nat → Int) : f (stR A r fun c => x * u c) = x * f (stR A r u) := by
  have := hl A r u u x 0 hr
  simp only [Int.zero_mul, Int.add_zero] at this
  exact this
theorem lin_sum {n r : Nat} {f : Mx → Int} (hl : Lin n f) (hr : r < n) (A : Mx) (m : Nat) (x : Nat → Int) (u : Nat → Nat → Int) :
    f (stR A r fun c => sumN m fun k => x k * u k c) = sumN m fun k => x k * f (stR A r (u k)) := by
  induction m with
  | zero => exact lin_zero hl hr A
  | succ m ih =>
    have := hl A r (fun c => sumN m fun k => x k * u k c) (u m) 1 (x m) hr
    simp only [Int.one_mul] at this
    show f (stR A r fun c => (sumN m fun k => x k * u k c) + x m * u m c) = _
    rw [this, ih]
    rfl
/-- A multiple of one row added to another one changes nothing. -/
theorem alt_add {n r s : Nat} {f : Mx → Int} (hl : Lin n f) (ha : Alt n f) (hrs : r ≠ s) (hr : r < n) (hs : s < n) (A : Mx) (x : Int) : f (stR A r fun c => A r c + x * A s c) = f A := by
  have := hl A r (A r) (A s) 1 x hr
  simp only [Int.one_mul] at this
  rw [this, stR_self, alt_at ha hrs hr hs (stR A r (A s)) (fun c _ => by rw [stR_at, stR_ne _ _ _ _ _ (Ne.symm hrs)])]
  omega
end Go.Proofs.Ytpelnfenfeoeeaa
