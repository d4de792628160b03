/-
  Determinants: expansion along any row and column; turned over; of products; the adjugate. Plain mathematics: nothing of a program is used.
-/
import Derived.Test.YtpelnfenfeoeeaaDet1
namespace Go.Proofs.Ytpelnfenfeoeeaa

/-- The unit vector. -/
def ej (j c : Nat) : Int := if c = j then 1 else 0
def idX : Mx := fun r c => if r = c then 1 else 0
def trX (A : Mx) : Mx := fun r c => A c r
def mulX (n : Nat) (A B : Mx) : Mx := fun i j => sumN n fun k => A i k * B k j
theorem ej_self (j : Nat) : ej j j = 1 := if_pos rfl
theorem ej_ne {j c : Nat} (h : c ≠ j) : ej j c = 0 := if_neg h

/-! ### Expansion along the first row -/
theorem mnr_mnr (A : Mx) (i j : Nat) : mnr (mnr A (i + 1) 0) 0 j = mnr (mnr A 0 (j + 1)) i 0 := by
  funext r c
  show A (skp (i + 1) (skp 0 r)) (skp 0 (skp j c)) = A (skp 0 (skp i r)) (skp (j + 1) (skp 0 c))
  rw [skp_zero, skp_zero, skp_zero, skp_zero, skp_succ, skp_succ]
theorem det_unit (n : Nat) : ∀ (A : Mx) (j : Nat), j < n + 1 → det (n + 1) (stR A 0 (ej j)) = sg j * det n (mnr A 0 j) := by
  induction n with
  | zero =>
    intro A j hj
    obtain rfl : j = 0 := by omega
    rw [det_succ]
    show 0 + sg 0 * stR A 0 (ej 0) 0 0 * 1 = sg 0 * 1
    rw [stR_at, ej_self]
    omega
  | succ n ih =>
    intro A j hj
    rw [det_succ, sumN_first]
    cases j with
    | zero =>
      rw [mnr_stR_same, stR_at, ej_self, sumN_all_zero]
      · rw [Int.add_zero, Int.mul_one]
      · intro i hi
        rw [mnr_stR _ _ _ _ _ (by omega)]
        have e : unskp (i + 1) 0 = 0 := by unfold unskp; rw [if_pos (by omega)]
        have e2 : (fun c => ej 0 (skp 0 c)) = fun _ => 0 := by
          funext c
          exact ej_ne (skp_ne 0 c)
        rw [e, e2, lin_zero (det_lin (n + 1)) (by omega), Int.mul_zero]
    | succ j =>
      rw [stR_at, ej_ne (by omega), Int.mul_zero, Int.zero_mul, Int.zero_add, det_succ, sumN_mul_left]
      refine sumN_congr fun i hi => ?_
      rw [stR_ne _ _ _ _ _ (by omega), mnr_stR _ _ _ _ _ (by omega)]
      have e : unskp (i + 1) 0 = 0 := by unfold unskp; rw [if_pos (by omega)]
      have e2 : (fun c => ej (j + 1) (skp 0 c)) = ej j := by
        funext c
        rw [skp_zero]
        unfold ej
        by_cases h : c = j
        · rw [if_pos h, if_pos (by omega)]
        · rw [if_neg h, if_neg (by omega)]
      rw [e, e2, ih _ j (by omega), mnr_mnr, sg_succ, sg_succ]
      have e3 : mnr A 0 (j + 1) i 0 = A (i + 1) 0 := by
        show A (skp 0 i) (skp (j + 1) 0) = _
        rw [skp_zero, skp_first _ (by omega)]
      rw [e3]
      generalize det n (mnr (mnr A 0 (j + 1)) i 0) = d
      generalize A (i + 1) 0 = a
      generalize sg i = s
      generalize sg j = t
      grind
/-- A row as a sum of unit vectors. -/
theorem row_sum (n : Nat) (v : Nat → Int) (c : Nat) (hc : c < n) : v c = sumN n fun k => v k * ej k c := by
  rw [sumN_one (a := c) hc (fun k _ hk => by rw [ej_ne (Ne.symm hk), Int.mul_zero]), ej_self, Int.mul_one]
theorem row_split {n r : Nat} {f : Mx → Int} (hl : Lin n f) (ho : Loc n f) (hr : r < n) (A : Mx) : f A = sumN n fun j => A r j * f (stR A r (ej j)) := by
  rw [← lin_sum hl hr A n (A r) ej]
  refine ho _ _ fun i c hi hc => ?_
  unfold stR
  by_cases h : i = r
  · rw [if_pos h, h]
    exact row_sum n (A r) c hc
  · rw [if_neg h]
theorem det_row (n : Nat) (A : Mx) : det (n + 1) A = sumN (n + 1) fun j => sg j * A 0 j * det n (mnr A 0 j) := by
  rw [row_split (det_lin (n + 1)) (det_loc (n + 1)) (r := 0) (by omega)]
  refine sumN_congr fun j hj => ?_
  rw [det_unit n A j hj]
  generalize det n (mnr A 0 j) = d
  generalize sg j = s
  grind
theorem trX_trX (A : Mx) : trX (trX A) = A := rfl
theorem mnr_trX (A : Mx) (i j : Nat) : mnr (trX A) i j = trX (mnr A j i) := rfl
theorem det_tr (n : Nat) : ∀ A : Mx, det n (trX A) = det n A := by
  induction n with
  | zero => intro A; rfl
  | succ n ih =>
    intro A
    rw [det_succ, det_row]
    refine sumN_congr fun i _ => ?_
    rw [mnr_trX, ih]
    rfl
theorem det_id (n : Nat) : det n idX = 1 := by
  induction n with
  | zero => rfl
  | succ n ih =>
    rw [det_succ, sumN_one (a := 0) (by omega)]
    · have e : mnr idX 0 0 = idX := by
        funext r c
        show (if skp 0 r = skp 0 c then (1 : Int) else 0) = if r = c then 1 else 0
        rw [skp_zero, skp_zero]
        by_cases h : r = c
        · rw [if_pos h, if_pos (by omega)]
        · rw [if_neg h, if_neg (by omega)]
      rw [e, ih]; rfl
    · intro i _ hi
      have : idX i 0 = 0 := if_neg hi
      rw [this, Int.mul_zero, Int.zero_mul]

/-! ### There is but one function of this kind -/
/-- Row 0 is the unit vector j; below, N with a column of zeros put in. -/
def insX (j : Nat) (N : Mx) : Mx := fun r c => if r = 0 then ej j c else if c = j then 0 else N (r - 1) (unskp j c)
theorem insX_row (j : Nat) (N : Mx) (r c : Nat) : insX j N (r + 1) c = if c = j then 0 else N r (unskp j c) := rfl
theorem insX_stR (j : Nat) (N : Mx) (r : Nat) (v : Nat → Int) : insX j (stR N r v) = stR (insX j N) (r + 1) (fun c => if c = j then 0 else v (unskp j c)) := by
  funext i c
  cases i with
  | zero =>
    rw [stR_ne _ _ _ _ _ (by omega)]
    rfl
  | succ i =>
    show (if c = j then 0 else stR N r v i (unskp j c)) = if i + 1 = r + 1 then _ else (if c = j then 0 else N i (unskp j c))
    by_cases h : i = r
    · rw [if_pos (show i + 1 = r + 1 by omega), h, stR_at]
    · rw [if_neg (show ¬ i + 1 = r + 1 by omega), stR_ne _ _ _ _ _ h]
theorem insX_loc {n j : Nat} {f : Mx → Int} (hj : j < n + 1) (h : Loc (n + 1) f) : Loc n (fun N => f (insX j N)) := fun A B hAB => h _ _ fun r c hr hc => by
  cases r with
  | zero => rfl
  | succ r =>
    rw [insX_row, insX_row]
    by_cases e : c = j
    · rw [if_pos e, if_pos e]
    · rw [if_neg e, if_neg e]
      exact hAB r _ (by omega) (unskp_lt e hc hj)
theorem insX_lin {n j : Nat} {f : Mx → Int} (h : Lin (n + 1) f) : Lin n (fun N => f (insX j N)) := fun A r u v x y hr => by
  show f (insX j (stR A r _)) = x * f (insX j (stR A r u)) + y * f (insX j (stR A r v))
  rw [insX_stR, insX_stR, insX_stR, ← h (insX j A) (r + 1) _ _ x y (by omega)]
  congr 2
  funext c
  by_cases e : c = j
  · rw [if_pos e, if_pos e, if_pos e]; omega
  · rw [if_neg e, if_neg e, if_neg e]
theorem insX_alt {n j : Nat} {f : Mx → Int} (hj : j < n + 1) (h : Alt (n + 1) f) : Alt n (fun N => f (insX j N)) := fun r s hrs hs A hA => by
  refine h (r + 1) (s + 1) (by omega) (by omega) _ fun c hc => ?_
  rw [insX_row, insX_row]
  by_cases e : c = j
  · rw [if_pos e, if_pos e]
  · rw [if_neg e, if_neg e]
    exact hA _ (unskp_lt e hc hj)
/-- The unit vectors, one of them put first. -/
theorem insX_id {n : Nat} {f : Mx → Int} (ho : Loc (n + 1) f) (hl : Lin (n + 1) f) (ha : Alt (n + 1) f) (j : Nat) (hj : j < n + 1) : f (insX j idX) = sg j * f idX := by
  induction j with
  | zero =>
    rw [sg_zero, Int.one_mul]
    refine ho _ _ fun r c _ _ => ?_
    cases r with
    | zero =>
      show ej 0 c = if 0 = c then 1 else 0
      unfold ej
      by_cases h : c = 0
      · rw [if_pos h, if_pos h.symm]
      · rw [if_neg h, if_neg (Ne.symm h)]
    | succ r =>
      rw [insX_row]
      show (if c = 0 then 0 else if r = unskp 0 c then (1 : Int) else 0) = if r + 1 = c then 1 else 0
      unfold unskp
      by_cases h : c = 0
      · rw [if_pos h, if_neg (show ¬ r + 1 = c by omega)]
      · rw [if_neg h, if_neg (show ¬ c < 0 by omega)]
        by_cases h2 : r + 1 = c
        · rw [if_pos h2, if_pos (show r = c - 1 by omega)]
        · rw [if_neg h2, if_neg (show ¬ r = c - 1 by omega)]
  | succ j ih =>
    have e : f (insX (j + 1) idX) = f (swR (insX j idX) 0 (j + 1)) := by
      refine ho _ _ fun r c _ _ => ?_
      cases r with
      | zero =>
        show ej (j + 1) c = if 0 = 0 then insX j idX (j + 1) c else _
        rw [if_pos rfl, insX_row]
        show (if c = j + 1 then (1 : Int) else 0) = if c = j then 0 else if j = unskp j c then 1 else 0
        unfold unskp
        by_cases h : c = j
        · rw [if_pos h, if_neg (show ¬ c = j + 1 by omega)]
        · rw [if_neg h]
          by_cases h2 : c < j
          · rw [if_pos h2, if_neg (show ¬ c = j + 1 by omega), if_neg (show ¬ j = c by omega)]
          · rw [if_neg h2]
            by_cases h3 : c = j + 1
            · rw [if_pos h3, if_pos (show j = c - 1 by omega)]
            · rw [if_neg h3, if_neg (show ¬ j = c - 1 by omega)]
      | succ r =>
        rw [insX_row]
        unfold swR
        rw [if_neg (show ¬ r + 1 = 0 by omega)]
        by_cases hr : r = j
        · subst hr
          rw [if_pos (show r + 1 = r + 1 from rfl)]
          show (if c = r + 1 then (0 : Int) else if r = unskp (r + 1) c then 1 else 0) = ej r c
          unfold unskp ej
          by_cases h : c = r + 1
          · rw [if_pos h, if_neg (show ¬ c = r by omega)]
          · rw [if_neg h]
            by_cases h2 : c < r + 1
            · rw [if_pos h2]
              by_cases h3 : c = r
              · rw [if_pos h3, if_pos h3.symm]
              · rw [if_neg h3, if_neg (Ne.symm h3)]
            · rw [if_neg h2, if_neg (show ¬ r = c - 1 by omega), if_neg (show ¬ c = r by omega)]
        · rw [if_neg (show ¬ r + 1 = j + 1 by omega), insX_row]
          show (if c = j + 1 then (0 : Int) else if r = unskp (j + 1) c then 1 else 0) = if c = j then 0 else if r = unskp j c then 1 else 0
          unfold unskp
          by_cases h : c = j + 1
          · rw [if_pos h, if_neg (show ¬ c = j by omega), if_neg (show ¬ c < j by omega), if_neg (show ¬ r = c - 1 by omega)]
          · rw [if_neg h]
            by_cases h2 : c = j
            · rw [if_pos h2, if_pos (show c < j + 1 by omega), if_neg (show ¬ r = c by omega)]
            · rw [if_neg h2]
              by_cases h3 : c < j
              · rw [if_pos h3, if_pos (show c < j + 1 by omega)]
              · rw [if_neg h3, if_neg (show ¬ c < j + 1 by omega)]
    rw [e, alt_swap hl ha (by omega) (by omega) hj, ih (by omega), sg_succ, Int.neg_mul]
/-- Column j is made 0 below the first row. -/
theorem clear_col {n : Nat} {f : Mx → Int} (ho : Loc (n + 1) f) (hl : Lin (n + 1) f) (ha : Alt (n + 1) f) (A : Mx) (j : Nat) : f (stR A 0 (ej j)) = f (insX j (mnr A 0 j)) := by
  have key : ∀ k, k ≤ n → f (stR A 0 (ej j)) = f (fun r c => if r = 0 then ej j c else if r ≤ k ∧ c = j then 0 else A r c) := by
    intro k
    induction k with
    | zero =>
      intro _
      refine ho _ _ fun r c _ _ => ?_
      unfold stR
      by_cases h : r = 0
      · rw [if_pos h, if_pos h]
      · rw [if_neg h, if_neg h, if_neg (by omega)]
    | succ k ih =>
      intro hk
      rw [ih (by omega), ← alt_add hl ha (r := k + 1) (s := 0) (by omega) (by omega) (by omega) _ (-(A (k + 1) j))]
      refine ho _ _ fun r c _ _ => ?_
      unfold stR
      simp only
      by_cases h : r = k + 1
      · subst h
        rw [if_pos rfl, if_neg (show ¬ k + 1 = 0 by omega), if_neg (show ¬ (k + 1 ≤ k ∧ c = j) by omega), if_true, if_neg (show ¬ k + 1 = 0 by omega)]
        unfold ej
        by_cases hc : c = j
        · rw [if_pos hc, if_pos (show k + 1 ≤ k + 1 ∧ c = j from ⟨Nat.le_refl _, hc⟩), hc]; omega
        · rw [if_neg hc, if_neg (show ¬ (k + 1 ≤ k + 1 ∧ c = j) from fun h => hc h.2)]; omega
      · rw [if_neg h]
        by_cases h0 : r = 0
        · rw [if_pos h0, if_pos h0]
        · rw [if_neg h0, if_neg h0]
          by_cases h1 : r ≤ k ∧ c = j
          · rw [if_pos h1, if_pos (show r ≤ k + 1 ∧ c = j from ⟨by omega, h1.2⟩)]
          · rw [if_neg h1, if_neg (show ¬ (r ≤ k + 1 ∧ c = j) from fun h2 => h1 ⟨by omega, h2.2⟩)]
  rw [key n (by omega)]
  refine ho _ _ fun r c hr hc => ?_
  cases r with
  | zero => rfl
  | succ r =>
    rw [insX_row, if_neg (show ¬ r + 1 = 0 by omega)]
    by_cases h : c = j
    · rw [if_pos (show r + 1 ≤ n ∧ c = j from ⟨by omega, h⟩), if_pos h]
    · rw [if_neg (show ¬ (r + 1 ≤ n ∧ c = j) from fun h2 => h h2.2), if_neg h]
      show A (r + 1) c = A (skp 0 r) (skp j (unskp j c))
      rw [skp_zero, skp_unskp h]
theorem det_uniq (n : Nat) : ∀ f : Mx → Int, Loc n f → Lin n f → Alt n f → ∀ A, f A = det n A * f idX := by
  induction n with
  | zero =>
    intro f ho _ _ A
    show f A = 1 * f idX
    rw [Int.one_mul]
    exact ho _ _ fun r c hr _ => by omega
  | succ n ih =>
    intro f ho hl ha A
    rw [row_split hl ho (r := 0) (by omega), det_row, sumN_mul]
    refine sumN_congr fun j hj => ?_
    rw [clear_col ho hl ha A j]
    have this : f (insX j (mnr A 0 j)) = det n (mnr A 0 j) * f (insX j idX) := ih (fun N => f (insX j N)) (insX_loc hj ho) (insX_lin hl) (insX_alt hj ha) (mnr A 0 j)
    rw [this, insX_id ho hl ha j hj]
    generalize det n (mnr A 0 j) = d
    generalize sg j = s
    grind

/-! ### Products -/
theorem mulX_stR (n : Nat) (A B : Mx) (r : Nat) (v : Nat → Int) : mulX n (stR A r v) B = stR (mulX n A B) r (fun j => sumN n fun k => v k * B k j) := by
  funext i j
  show (sumN n fun k => stR A r v i k * B k j) = if i = r then _ else sumN n fun k => A i k * B k j
  by_cases h : i = r
  · rw [if_pos h, h]
    exact sumN_congr fun k _ => by rw [stR_at]
  · rw [if_neg h]
    exact sumN_congr fun k _ => by rw [stR_ne _ _ _ _ _ h]
theorem det_mul (n : Nat) (A B : Mx) : det n (mulX n A B) = det n A * det n B := by
  have h : det n (mulX n A B) = det n A * det n (mulX n idX B) := det_uniq n (fun A => det n (mulX n A B))
    (fun A A' h => det_congr fun r c hr _ => sumN_congr fun k hk => by rw [h r k hr hk])
    (fun A r u v x y hr => by
      show det n (mulX n (stR A r _) B) = x * det n (mulX n (stR A r u) B) + y * det n (mulX n (stR A r v) B)
      rw [mulX_stR, mulX_stR, mulX_stR, ← det_lin n _ r _ _ x y hr]
      congr 2
      funext j
      rw [sumN_mul_left, sumN_mul_left, ← sumN_add]
      refine sumN_congr fun k _ => ?_
      grind)
    (fun r s hrs hs A hA => det_alt n r s hrs hs _ fun c _ => sumN_congr fun k hk => by rw [hA k hk]) A
  rw [h]
  congr 1
  refine det_congr fun r c hr _ => ?_
  show (sumN n fun k => (if r = k then (1 : Int) else 0) * B k c) = B r c
  rw [sumN_one (a := r) hr (fun k _ hk => by rw [if_neg (Ne.symm hk), Int.zero_mul]), if_pos rfl, Int.one_mul]

/-! ### Expansion along any row -/
/-- Row i is put first. -/
def mvX (i : Nat) (A : Mx) : Mx := fun r c => if r = 0 then A i c else A (skp i (r - 1)) c
theorem det_mv (n : Nat) (A : Mx) (i : Nat) (hi : i < n + 1) : det (n + 1) (mvX i A) = sg i * det (n + 1) A := by
  induction i with
  | zero =>
    rw [sg_zero, Int.one_mul]
    refine det_congr fun r c _ _ => ?_
    unfold mvX
    by_cases h : r = 0
    · rw [if_pos h, h]
    · rw [if_neg h, skp_zero, show r - 1 + 1 = r by omega]
  | succ i ih =>
    have e : det (n + 1) (mvX (i + 1) A) = det (n + 1) (swR (mvX i A) 0 (i + 1)) := by
      refine det_congr fun r c _ _ => ?_
      unfold swR mvX
      by_cases h : r = 0
      · rw [if_pos h, if_pos h, if_neg (by omega)]
        have : skp i (i + 1 - 1) = i + 1 := by unfold skp; rw [if_neg (by omega)]; omega
        rw [this]
      · rw [if_neg h, if_neg h]
        by_cases h2 : r = i + 1
        · rw [if_pos h2, if_pos rfl]
          have : skp (i + 1) (r - 1) = i := by unfold skp; rw [if_pos (by omega)]; omega
          rw [this]
        · rw [if_neg h2, if_neg h]
          have : skp (i + 1) (r - 1) = skp i (r - 1) := by
            unfold skp
            by_cases h3 : r - 1 < i
            · rw [if_pos h3, if_pos (by omega)]
            · rw [if_neg h3, if_neg (by omega)]
          rw [this]
    rw [e, alt_swap (det_lin _) (det_alt _) (by omega) (by omega) hi, ih (by omega), sg_succ, Int.neg_mul]
theorem det_row_at (n : Nat) (A : Mx) (i : Nat) (hi : i < n + 1) : det (n + 1) A = sumN (n + 1) fun j => sg (i + j) * A i j * det n (mnr A i j) := by
  have h := det_mv n A i hi
  rw [det_row] at h
  have h2 : sg i * (sg i * det (n + 1) A) = det (n + 1) A := by rw [← Int.mul_assoc, sg_sq, Int.one_mul]
  rw [← h2, ← h, sumN_mul_left]
  refine sumN_congr fun j _ => ?_
  have e : mnr (mvX i A) 0 j = mnr A i j := by
    funext r c
    show mvX i A (skp 0 r) (skp j c) = A (skp i r) (skp j c)
    rw [skp_zero]
    show (if r + 1 = 0 then _ else A (skp i (r + 1 - 1)) (skp j c)) = _
    rw [if_neg (by omega), Nat.add_sub_cancel]
  have e2 : mvX i A 0 j = A i j := if_pos rfl
  rw [e, e2, sg_add]
  grind
theorem det_row_other (n : Nat) (A : Mx) (i k : Nat) (hi : i < n + 1) (hk : k < n + 1) (hne : i ≠ k) : (sumN (n + 1) fun j => sg (k + j) * A i j * det n (mnr A k j)) = 0 := by
  have h := det_row_at n (stR A k (A i)) k hk
  rw [alt_at (det_alt _) hne hi hk _ (fun c _ => by rw [stR_at, stR_ne _ _ _ _ _ hne])] at h
  rw [h]
  refine sumN_congr fun j _ => ?_
  rw [stR_at, mnr_stR_same]
theorem det_col_at (n : Nat) (A : Mx) (j : Nat) (hj : j < n + 1) : det (n + 1) A = sumN (n + 1) fun i => sg (i + j) * A i j * det n (mnr A i j) := by
  rw [← det_tr, det_row_at n (trX A) j hj]
  refine sumN_congr fun i _ => ?_
  rw [mnr_trX, det_tr, Nat.add_comm j i]
  rfl
theorem det_col_other (n : Nat) (A : Mx) (j k : Nat) (hj : j < n + 1) (hk : k < n + 1) (hne : j ≠ k) : (sumN (n + 1) fun i => sg (i + k) * A i j * det n (mnr A i k)) = 0 := by
  rw [← det_row_other n (trX A) j k hj hk hne]
  refine sumN_congr fun i _ => ?_
  rw [mnr_trX, det_tr, Nat.add_comm k i]
  rfl
/-- The adjugate. -/
def adjX (n : Nat) (A : Mx) : Mx := fun j i => sg (i + j) * det n (mnr A i j)
theorem mul_adj (n : Nat) (A : Mx) (i k : Nat) (hi : i < n + 1) (hk : k < n + 1) : mulX (n + 1) A (adjX n A) i k = if i = k then det (n + 1) A else 0 := by
  show (sumN (n + 1) fun j => A i j * (sg (k + j) * det n (mnr A k j))) = _
  have e : (sumN (n + 1) fun j => A i j * (sg (k + j) * det n (mnr A k j))) = sumN (n + 1) fun j => sg (k + j) * A i j * det n (mnr A k j) := sumN_congr fun j _ => by grind
  rw [e]
  by_cases h : i = k
  · rw [if_pos h, h]; exact (det_row_at n A k hk).symm
  · rw [if_neg h]; exact det_row_other n A i k hi hk h
theorem adj_mul (n : Nat) (A : Mx) (i k : Nat) (hi : i < n + 1) (hk : k < n + 1) : mulX (n + 1) (adjX n A) A i k = if i = k then det (n + 1) A else 0 := by
  show (sumN (n + 1) fun j => sg (j + i) * det n (mnr A j i) * A j k) = _
  have e : (sumN (n + 1) fun j => sg (j + i) * det n (mnr A j i) * A j k) = sumN (n + 1) fun j => sg (j + i) * A j k * det n (mnr A j i) := sumN_congr fun j _ => by grind
  rw [e]
  by_cases h : i = k
  · subst h; rw [if_pos rfl]; exact (det_col_at n A i hi).symm
  · rw [if_neg h]; exact det_col_other n A k i hk hi (Ne.symm h)
end Go.Proofs.Ytpelnfenfeoeeaa
