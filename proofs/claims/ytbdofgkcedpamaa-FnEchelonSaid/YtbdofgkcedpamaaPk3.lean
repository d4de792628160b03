/-
  Texts of this seat, joined: Det2 · RdCells · SameMath · MatDone · Shelf · CloneI · CopyI · MatI · RwI · DoneI · FoldM
-/
import Derived.Test.YtbdofgkcedpamaaRows
import Derived.Ground.Names2Prog
import Derived.Shelf.Slices.Clone
import Derived.Test.YtbdofgkcedpamaaProg
import Derived.Deep.RegionHeld3
import Derived.Deep.DeepCutAuto
import Derived.BigQuiet
import Derived.Deep.QuietTactic
import Derived.IntWalk
import Derived.StillTailTactics
import Derived.Test.YtbdofgkcedpamaaPk1
import Derived.Test.YtbdofgkcedpamaaPk2

section
/-
  Determinants: expansion along any row and column; turned over; of products; the adjugate. Plain mathematics: nothing of a program is used.
-/
namespace Go.Proofs.Ytbdofgkcedpamaa

/-- The unit vector. -/
def ej (j c : Nat) : Int := if c = j then 1 else 0
def idX : Mx := fun r c => if r = c then 1 else 0
def trX (A : Mx) : Mx := fun r c => A c r
def mulX (n : Nat) (A B : Mx) : Mx := fun i j => sumN n fun k => A i k * B k j
theorem ej_self (j : Nat) : ej j j = 1 := if_pos rfl
theorem ej_ne {j c : Nat} (h : c ≠ j) : ej j c = 0 := if_neg h

/-! ### Expansion along the first row -/
theorem mnr_mnr (A : Mx) (i j : Nat) : mnr (mnr A (i + 1) 0) 0 j = mnr (mnr A 0 (j + 1)) i 0 := by
  funext r c
  show A (skp (i + 1) (skp 0 r)) (skp 0 (skp j c)) = A (skp 0 (skp i r)) (skp (j + 1) (skp 0 c))
  rw [skp_zero, skp_zero, skp_zero, skp_zero, skp_succ, skp_succ]
theorem det_unit (n : Nat) : ∀ (A : Mx) (j : Nat), j < n + 1 → det (n + 1) (stR A 0 (ej j)) = sg j * det n (mnr A 0 j) := by
  induction n with
  | zero =>
    intro A j hj
    obtain rfl : j = 0 := by omega
    rw [det_succ]
    show 0 + sg 0 * stR A 0 (ej 0) 0 0 * 1 = sg 0 * 1
    rw [stR_at, ej_self]
    omega
  | succ n ih =>
    intro A j hj
    rw [det_succ, sumN_first]
    cases j with
    | zero =>
      rw [mnr_stR_same, stR_at, ej_self, sumN_all_zero]
      · rw [Int.add_zero, Int.mul_one]
      · intro i hi
        rw [mnr_stR _ _ _ _ _ (by omega)]
        have e : unskp (i + 1) 0 = 0 := by unfold unskp; rw [if_pos (by omega)]
        have e2 : (fun c => ej 0 (skp 0 c)) = fun _ => 0 := by
          funext c
          exact ej_ne (skp_ne 0 c)
        rw [e, e2, lin_zero (det_lin (n + 1)) (by omega), Int.mul_zero]
    | succ j =>
      rw [stR_at, ej_ne (by omega), Int.mul_zero, Int.zero_mul, Int.zero_add, det_succ, sumN_mul_left]
      refine sumN_congr fun i hi => ?_
      rw [stR_ne _ _ _ _ _ (by omega), mnr_stR _ _ _ _ _ (by omega)]
      have e : unskp (i + 1) 0 = 0 := by unfold unskp; rw [if_pos (by omega)]
      have e2 : (fun c => ej (j + 1) (skp 0 c)) = ej j := by
        funext c
        rw [skp_zero]
        unfold ej
        by_cases h : c = j
        · rw [if_pos h, if_pos (by omega)]
        · rw [if_neg h, if_neg (by omega)]
      rw [e, e2, ih _ j (by omega), mnr_mnr, sg_succ, sg_succ]
      have e3 : mnr A 0 (j + 1) i 0 = A (i + 1) 0 := by
        show A (skp 0 i) (skp (j + 1) 0) = _
        rw [skp_zero, skp_first _ (by omega)]
      rw [e3]
      generalize det n (mnr (mnr A 0 (j + 1)) i 0) = d
      generalize A (i + 1) 0 = a
      generalize sg i = s
      generalize sg j = t
      grind
/-- A row as a sum of unit vectors. -/
theorem row_sum (n : Nat) (v : Nat → Int) (c : Nat) (hc : c < n) : v c = sumN n fun k => v k * ej k c := by
  rw [sumN_one (a := c) hc (fun k _ hk => by rw [ej_ne (Ne.symm hk), Int.mul_zero]), ej_self, Int.mul_one]
theorem row_split {n r : Nat} {f : Mx → Int} (hl : Lin n f) (ho : Loc n f) (hr : r < n) (A : Mx) : f A = sumN n fun j => A r j * f (stR A r (ej j)) := by
  rw [← lin_sum hl hr A n (A r) ej]
  refine ho _ _ fun i c hi hc => ?_
  unfold stR
  by_cases h : i = r
  · rw [if_pos h, h]
    exact row_sum n (A r) c hc
  · rw [if_neg h]
theorem det_row (n : Nat) (A : Mx) : det (n + 1) A = sumN (n + 1) fun j => sg j * A 0 j * det n (mnr A 0 j) := by
  rw [row_split (det_lin (n + 1)) (det_loc (n + 1)) (r := 0) (by omega)]
  refine sumN_congr fun j hj => ?_
  rw [det_unit n A j hj]
  generalize det n (mnr A 0 j) = d
  generalize sg j = s
  grind
theorem trX_trX (A : Mx) : trX (trX A) = A := rfl
theorem mnr_trX (A : Mx) (i j : Nat) : mnr (trX A) i j = trX (mnr A j i) := rfl
theorem det_tr (n : Nat) : ∀ A : Mx, det n (trX A) = det n A := by
  induction n with
  | zero => intro A; rfl
  | succ n ih =>
    intro A
    rw [det_succ, det_row]
    refine sumN_congr fun i _ => ?_
    rw [mnr_trX, ih]
    rfl
theorem det_id (n : Nat) : det n idX = 1 := by
  induction n with
  | zero => rfl
  | succ n ih =>
    rw [det_succ, sumN_one (a := 0) (by omega)]
    · have e : mnr idX 0 0 = idX := by
        funext r c
        show (if skp 0 r = skp 0 c then (1 : Int) else 0) = if r = c then 1 else 0
        rw [skp_zero, skp_zero]
        by_cases h : r = c
        · rw [if_pos h, if_pos (by omega)]
        · rw [if_neg h, if_neg (by omega)]
      rw [e, ih]; rfl
    · intro i _ hi
      have : idX i 0 = 0 := if_neg hi
      rw [this, Int.mul_zero, Int.zero_mul]

/-! ### There is but one function of this kind -/
/-- Row 0 is the unit vector j; below, N with a column of zeros put in. -/
def insX (j : Nat) (N : Mx) : Mx := fun r c => if r = 0 then ej j c else if c = j then 0 else N (r - 1) (unskp j c)
theorem insX_row (j : Nat) (N : Mx) (r c : Nat) : insX j N (r + 1) c = if c = j then 0 else N r (unskp j c) := rfl
theorem insX_stR (j : Nat) (N : Mx) (r : Nat) (v : Nat → Int) : insX j (stR N r v) = stR (insX j N) (r + 1) (fun c => if c = j then 0 else v (unskp j c)) := by
  funext i c
  cases i with
  | zero =>
    rw [stR_ne _ _ _ _ _ (by omega)]
    rfl
  | succ i =>
    show (if c = j then 0 else stR N r v i (unskp j c)) = if i + 1 = r + 1 then _ else (if c = j then 0 else N i (unskp j c))
    by_cases h : i = r
    · rw [if_pos (show i + 1 = r + 1 by omega), h, stR_at]
    · rw [if_neg (show ¬ i + 1 = r + 1 by omega), stR_ne _ _ _ _ _ h]
theorem insX_loc {n j : Nat} {f : Mx → Int} (hj : j < n + 1) (h : Loc (n + 1) f) : Loc n (fun N => f (insX j N)) := fun A B hAB => h _ _ fun r c hr hc => by
  cases r with
  | zero => rfl
  | succ r =>
    rw [insX_row, insX_row]
    by_cases e : c = j
    · rw [if_pos e, if_pos e]
    · rw [if_neg e, if_neg e]
      exact hAB r _ (by omega) (unskp_lt e hc hj)
theorem insX_lin {n j : Nat} {f : Mx → Int} (h : Lin (n + 1) f) : Lin n (fun N => f (insX j N)) := fun A r u v x y hr => by
  show f (insX j (stR A r _)) = x * f (insX j (stR A r u)) + y * f (insX j (stR A r v))
  rw [insX_stR, insX_stR, insX_stR, ← h (insX j A) (r + 1) _ _ x y (by omega)]
  congr 2
  funext c
  by_cases e : c = j
  · rw [if_pos e, if_pos e, if_pos e]; omega
  · rw [if_neg e, if_neg e, if_neg e]
theorem insX_alt {n j : Nat} {f : Mx → Int} (hj : j < n + 1) (h : Alt (n + 1) f) : Alt n (fun N => f (insX j N)) := fun r s hrs hs A hA => by
  refine h (r + 1) (s + 1) (by omega) (by omega) _ fun c hc => ?_
  rw [insX_row, insX_row]
  by_cases e : c = j
  · rw [if_pos e, if_pos e]
  · rw [if_neg e, if_neg e]
    exact hA _ (unskp_lt e hc hj)
/-- The unit vectors, one of them put first. -/
theorem insX_id {n : Nat} {f : Mx → Int} (ho : Loc (n + 1) f) (hl : Lin (n + 1) f) (ha : Alt (n + 1) f) (j : Nat) (hj : j < n + 1) : f (insX j idX) = sg j * f idX := by
  induction j with
  | zero =>
    rw [sg_zero, Int.one_mul]
    refine ho _ _ fun r c _ _ => ?_
    cases r with
    | zero =>
      show ej 0 c = if 0 = c then 1 else 0
      unfold ej
      by_cases h : c = 0
      · rw [if_pos h, if_pos h.symm]
      · rw [if_neg h, if_neg (Ne.symm h)]
    | succ r =>
      rw [insX_row]
      show (if c = 0 then 0 else if r = unskp 0 c then (1 : Int) else 0) = if r + 1 = c then 1 else 0
      unfold unskp
      by_cases h : c = 0
      · rw [if_pos h, if_neg (show ¬ r + 1 = c by omega)]
      · rw [if_neg h, if_neg (show ¬ c < 0 by omega)]
        by_cases h2 : r + 1 = c
        · rw [if_pos h2, if_pos (show r = c - 1 by omega)]
        · rw [if_neg h2, if_neg (show ¬ r = c - 1 by omega)]
  | succ j ih =>
    have e : f (insX (j + 1) idX) = f (swR (insX j idX) 0 (j + 1)) := by
      refine ho _ _ fun r c _ _ => ?_
      cases r with
      | zero =>
        show ej (j + 1) c = if 0 = 0 then insX j idX (j + 1) c else _
        rw [if_pos rfl, insX_row]
        show (if c = j + 1 then (1 : Int) else 0) = if c = j then 0 else if j = unskp j c then 1 else 0
        unfold unskp
        by_cases h : c = j
        · rw [if_pos h, if_neg (show ¬ c = j + 1 by omega)]
        · rw [if_neg h]
          by_cases h2 : c < j
          · rw [if_pos h2, if_neg (show ¬ c = j + 1 by omega), if_neg (show ¬ j = c by omega)]
          · rw [if_neg h2]
            by_cases h3 : c = j + 1
            · rw [if_pos h3, if_pos (show j = c - 1 by omega)]
            · rw [if_neg h3, if_neg (show ¬ j = c - 1 by omega)]
      | succ r =>
        rw [insX_row]
        unfold swR
        rw [if_neg (show ¬ r + 1 = 0 by omega)]
        by_cases hr : r = j
        · subst hr
          rw [if_pos (show r + 1 = r + 1 from rfl)]
          show (if c = r + 1 then (0 : Int) else if r = unskp (r + 1) c then 1 else 0) = ej r c
          unfold unskp ej
          by_cases h : c = r + 1
          · rw [if_pos h, if_neg (show ¬ c = r by omega)]
          · rw [if_neg h]
            by_cases h2 : c < r + 1
            · rw [if_pos h2]
              by_cases h3 : c = r
              · rw [if_pos h3, if_pos h3.symm]
              · rw [if_neg h3, if_neg (Ne.symm h3)]
            · rw [if_neg h2, if_neg (show ¬ r = c - 1 by omega), if_neg (show ¬ c = r by omega)]
        · rw [if_neg (show ¬ r + 1 = j + 1 by omega), insX_row]
          show (if c = j + 1 then (0 : Int) else if r = unskp (j + 1) c then 1 else 0) = if c = j then 0 else if r = unskp j c then 1 else 0
          unfold unskp
          by_cases h : c = j + 1
          · rw [if_pos h, if_neg (show ¬ c = j by omega), if_neg (show ¬ c < j by omega), if_neg (show ¬ r = c - 1 by omega)]
          · rw [if_neg h]
            by_cases h2 : c = j
            · rw [if_pos h2, if_pos (show c < j + 1 by omega), if_neg (show ¬ r = c by omega)]
            · rw [if_neg h2]
              by_cases h3 : c < j
              · rw [if_pos h3, if_pos (show c < j + 1 by omega)]
              · rw [if_neg h3, if_neg (show ¬ c < j + 1 by omega)]
    rw [e, alt_swap hl ha (by omega) (by omega) hj, ih (by omega), sg_succ, Int.neg_mul]
/-- Column j is made 0 below the first row. -/
theorem clear_col {n : Nat} {f : Mx → Int} (ho : Loc (n + 1) f) (hl : Lin (n + 1) f) (ha : Alt (n + 1) f) (A : Mx) (j : Nat) : f (stR A 0 (ej j)) = f (insX j (mnr A 0 j)) := by
  have key : ∀ k, k ≤ n → f (stR A 0 (ej j)) = f (fun r c => if r = 0 then ej j c else if r ≤ k ∧ c = j then 0 else A r c) := by
    intro k
    induction k with
    | zero =>
      intro _
      refine ho _ _ fun r c _ _ => ?_
      unfold stR
      by_cases h : r = 0
      · rw [if_pos h, if_pos h]
      · rw [if_neg h, if_neg h, if_neg (by omega)]
    | succ k ih =>
      intro hk
      rw [ih (by omega), ← alt_add hl ha (r := k + 1) (s := 0) (by omega) (by omega) (by omega) _ (-(A (k + 1) j))]
      refine ho _ _ fun r c _ _ => ?_
      unfold stR
      simp only
      by_cases h : r = k + 1
      · subst h
        rw [if_pos rfl, if_neg (show ¬ k + 1 = 0 by omega), if_neg (show ¬ (k + 1 ≤ k ∧ c = j) by omega), if_true, if_neg (show ¬ k + 1 = 0 by omega)]
        unfold ej
        by_cases hc : c = j
        · rw [if_pos hc, if_pos (show k + 1 ≤ k + 1 ∧ c = j from ⟨Nat.le_refl _, hc⟩), hc]; omega
        · rw [if_neg hc, if_neg (show ¬ (k + 1 ≤ k + 1 ∧ c = j) from fun h => hc h.2)]; omega
      · rw [if_neg h]
        by_cases h0 : r = 0
        · rw [if_pos h0, if_pos h0]
        · rw [if_neg h0, if_neg h0]
          by_cases h1 : r ≤ k ∧ c = j
          · rw [if_pos h1, if_pos (show r ≤ k + 1 ∧ c = j from ⟨by omega, h1.2⟩)]
          · rw [if_neg h1, if_neg (show ¬ (r ≤ k + 1 ∧ c = j) from fun h2 => h1 ⟨by omega, h2.2⟩)]
  rw [key n (by omega)]
  refine ho _ _ fun r c hr hc => ?_
  cases r with
  | zero => rfl
  | succ r =>
    rw [insX_row, if_neg (show ¬ r + 1 = 0 by omega)]
    by_cases h : c = j
    · rw [if_pos (show r + 1 ≤ n ∧ c = j from ⟨by omega, h⟩), if_pos h]
    · rw [if_neg (show ¬ (r + 1 ≤ n ∧ c = j) from fun h2 => h h2.2), if_neg h]
      show A (r + 1) c = A (skp 0 r) (skp j (unskp j c))
      rw [skp_zero, skp_unskp h]
theorem det_uniq (n : Nat) : ∀ f : Mx → Int, Loc n f → Lin n f → Alt n f → ∀ A, f A = det n A * f idX := by
  induction n with
  | zero =>
    intro f ho _ _ A
    show f A = 1 * f idX
    rw [Int.one_mul]
    exact ho _ _ fun r c hr _ => by omega
  | succ n ih =>
    intro f ho hl ha A
    rw [row_split hl ho (r := 0) (by omega), det_row, sumN_mul]
    refine sumN_congr fun j hj => ?_
    rw [clear_col ho hl ha A j]
    have this : f (insX j (mnr A 0 j)) = det n (mnr A 0 j) * f (insX j idX) := ih (fun N => f (insX j N)) (insX_loc hj ho) (insX_lin hl) (insX_alt hj ha) (mnr A 0 j)
    rw [this, insX_id ho hl ha j hj]
    generalize det n (mnr A 0 j) = d
    generalize sg j = s
    grind

/-! ### Products -/
theorem mulX_stR (n : Nat) (A B : Mx) (r : Nat) (v : Nat → Int) : mulX n (stR A r v) B = stR (mulX n A B) r (fun j => sumN n fun k => v k * B k j) := by
  funext i j
  show (sumN n fun k => stR A r v i k * B k j) = if i = r then _ else sumN n fun k => A i k * B k j
  by_cases h : i = r
  · rw [if_pos h, h]
    exact sumN_congr fun k _ => by rw [stR_at]
  · rw [if_neg h]
    exact sumN_congr fun k _ => by rw [stR_ne _ _ _ _ _ h]
theorem det_mul (n : Nat) (A B : Mx) : det n (mulX n A B) = det n A * det n B := by
  have h : det n (mulX n A B) = det n A * det n (mulX n idX B) := det_uniq n (fun A => det n (mulX n A B))
    (fun A A' h => det_congr fun r c hr _ => sumN_congr fun k hk => by rw [h r k hr hk])
    (fun A r u v x y hr => by
      show det n (mulX n (stR A r _) B) = x * det n (mulX n (stR A r u) B) + y * det n (mulX n (stR A r v) B)
      rw [mulX_stR, mulX_stR, mulX_stR, ← det_lin n _ r _ _ x y hr]
      congr 2
      funext j
      rw [sumN_mul_left, sumN_mul_left, ← sumN_add]
      refine sumN_congr fun k _ => ?_
      grind)
    (fun r s hrs hs A hA => det_alt n r s hrs hs _ fun c _ => sumN_congr fun k hk => by rw [hA k hk]) A
  rw [h]
  congr 1
  refine det_congr fun r c hr _ => ?_
  show (sumN n fun k => (if r = k then (1 : Int) else 0) * B k c) = B r c
  rw [sumN_one (a := r) hr (fun k _ hk => by rw [if_neg (Ne.symm hk), Int.zero_mul]), if_pos rfl, Int.one_mul]

/-! ### Expansion along any row -/
/-- Row i is put first. -/
def mvX (i : Nat) (A : Mx) : Mx := fun r c => if r = 0 then A i c else A (skp i (r - 1)) c
theorem det_mv (n : Nat) (A : Mx) (i : Nat) (hi : i < n + 1) : det (n + 1) (mvX i A) = sg i * det (n + 1) A := by
  induction i with
  | zero =>
    rw [sg_zero, Int.one_mul]
    refine det_congr fun r c _ _ => ?_
    unfold mvX
    by_cases h : r = 0
    · rw [if_pos h, h]
    · rw [if_neg h, skp_zero, show r - 1 + 1 = r by omega]
  | succ i ih =>
    have e : det (n + 1) (mvX (i + 1) A) = det (n + 1) (swR (mvX i A) 0 (i + 1)) := by
      refine det_congr fun r c _ _ => ?_
      unfold swR mvX
      by_cases h : r = 0
      · rw [if_pos h, if_pos h, if_neg (by omega)]
        have : skp i (i + 1 - 1) = i + 1 := by unfold skp; rw [if_neg (by omega)]; omega
        rw [this]
      · rw [if_neg h, if_neg h]
        by_cases h2 : r = i + 1
        · rw [if_pos h2, if_pos rfl]
          have : skp (i + 1) (r - 1) = i := by unfold skp; rw [if_pos (by omega)]; omega
          rw [this]
        · rw [if_neg h2, if_neg h]
          have : skp (i + 1) (r - 1) = skp i (r - 1) := by
            unfold skp
            by_cases h3 : r - 1 < i
            · rw [if_pos h3, if_pos (by omega)]
            · rw [if_neg h3, if_neg (by omega)]
          rw [this]
    rw [e, alt_swap (det_lin _) (det_alt _) (by omega) (by omega) hi, ih (by omega), sg_succ, Int.neg_mul]
theorem det_row_at (n : Nat) (A : Mx) (i : Nat) (hi : i < n + 1) : det (n + 1) A = sumN (n + 1) fun j => sg (i + j) * A i j * det n (mnr A i j) := by
  have h := det_mv n A i hi
  rw [det_row] at h
  have h2 : sg i * (sg i * det (n + 1) A) = det (n + 1) A := by rw [← Int.mul_assoc, sg_sq, Int.one_mul]
  rw [← h2, ← h, sumN_mul_left]
  refine sumN_congr fun j _ => ?_
  have e : mnr (mvX i A) 0 j = mnr A i j := by
    funext r c
    show mvX i A (skp 0 r) (skp j c) = A (skp i r) (skp j c)
    rw [skp_zero]
    show (if r + 1 = 0 then _ else A (skp i (r + 1 - 1)) (skp j c)) = _
    rw [if_neg (by omega), Nat.add_sub_cancel]
  have e2 : mvX i A 0 j = A i j := if_pos rfl
  rw [e, e2, sg_add]
  grind
theorem det_row_other (n : Nat) (A : Mx) (i k : Nat) (hi : i < n + 1) (hk : k < n + 1) (hne : i ≠ k) : (sumN (n + 1) fun j => sg (k + j) * A i j * det n (mnr A k j)) = 0 := by
  have h := det_row_at n (stR A k (A i)) k hk
  rw [alt_at (det_alt _) hne hi hk _ (fun c _ => by rw [stR_at, stR_ne _ _ _ _ _ hne])] at h
  rw [h]
  refine sumN_congr fun j _ => ?_
  rw [stR_at, mnr_stR_same]
theorem det_col_at (n : Nat) (A : Mx) (j : Nat) (hj : j < n + 1) : det (n + 1) A = sumN (n + 1) fun i => sg (i + j) * A i j * det n (mnr A i j) := by
  rw [← det_tr, det_row_at n (trX A) j hj]
  refine sumN_congr fun i _ => ?_
  rw [mnr_trX, det_tr, Nat.add_comm j i]
  rfl
theorem det_col_other (n : Nat) (A : Mx) (j k : Nat) (hj : j < n + 1) (hk : k < n + 1) (hne : j ≠ k) : (sumN (n + 1) fun i => sg (i + k) * A i j * det n (mnr A i k)) = 0 := by
  rw [← det_row_other n (trX A) j k hj hk hne]
  refine sumN_congr fun i _ => ?_
  rw [mnr_trX, det_tr, Nat.add_comm k i]
  rfl
/-- The adjugate. -/
def adjX (n : Nat) (A : Mx) : Mx := fun j i => sg (i + j) * det n (mnr A i j)
theorem mul_adj (n : Nat) (A : Mx) (i k : Nat) (hi : i < n + 1) (hk : k < n + 1) : mulX (n + 1) A (adjX n A) i k = if i = k then det (n + 1) A else 0 := by
  show (sumN (n + 1) fun j => A i j * (sg (k + j) * det n (mnr A k j))) = _
  have e : (sumN (n + 1) fun j => A i j * (sg (k + j) * det n (mnr A k j))) = sumN (n + 1) fun j => sg (k + j) * A i j * det n (mnr A k j) := sumN_congr fun j _ => by grind
  rw [e]
  by_cases h : i = k
  · rw [if_pos h, h]; exact (det_row_at n A k hk).symm
  · rw [if_neg h]; exact det_row_other n A i k hi hk h
theorem adj_mul (n : Nat) (A : Mx) (i k : Nat) (hi : i < n + 1) (hk : k < n + 1) : mulX (n + 1) (adjX n A) A i k = if i = k then det (n + 1) A else 0 := by
  show (sumN (n + 1) fun j => sg (j + i) * det n (mnr A j i) * A j k) = _
  have e : (sumN (n + 1) fun j => sg (j + i) * det n (mnr A j i) * A j k) = sumN (n + 1) fun j => sg (j + i) * A j k * det n (mnr A j i) := sumN_congr fun j _ => by grind
  rw [e]
  by_cases h : i = k
  · subst h; rw [if_pos rfl]; exact (det_col_at n A i hi).symm
  · rw [if_neg h]; exact det_col_other n A k i hk hi (Ne.symm h)
end Go.Proofs.Ytbdofgkcedpamaa
end

section
/-
  A block of ints, cell by cell.
-/
namespace Go.Proofs.Ytbdofgkcedpamaa
open Go.RowKit

theorem Rd.cells {w : World} {b o : Nat} {zs : List Int} (h : Rd w (some ⟨b, o, none⟩) zs) (j : Nat) (hj : j < zs.length) : w.cell? ⟨b, o + j, none⟩ = some (.int .i64 (zs.getD j 0)) := by
  obtain ⟨b', o', e, hc⟩ := h j hj
  injection e with e
  injection e with e1 e2
  subst e1 e2
  exact hc
theorem Rd.addr {w : World} {a : Option Addr} {zs : List Int} (h : Rd w a zs) (hz : 0 < zs.length) : ∃ b o : Nat, a = some ⟨b, o, none⟩ := by
  obtain ⟨b, o, e, -⟩ := h 0 hz
  exact ⟨b, o, e⟩
end Go.Proofs.Ytbdofgkcedpamaa
end

section
/-
  What SameMatrix answers.
-/
namespace Go.Proofs.Ytbdofgkcedpamaa


/-- SameMatrix. -/
def sameM (r c : Int) (xs : List Int) (r' c' : Int) (ys : List Int) : Bool := decide (r = r' ∧ c = c' ∧ xs = ys)
end Go.Proofs.Ytbdofgkcedpamaa
end

section
/-
  Chapter 3, in the model: a matrix that is done.
-/
namespace Go.Proofs.Ytbdofgkcedpamaa
open Go.RowKit

/-- A matrix that is handed on if it is valid. -/
def DoneRes (r c : Int) (v : Value) (ok : Bool) : Value := if ok = true then .tuple #[.agg #[.int .i64 r, .int .i64 c, v], .bool true] else .tuple #[.agg #[.int .i64 0, .int .i64 0, .slice none 0 0], .bool false]

set_option maxHeartbeats 400000 in
theorem sDone (r c : Int) (a : Option Addr) (cap : Nat) (zs : List Int) (w : World) (h : Rd w a zs) (hn : zs.length ≤ 16777216) :
    Calls Try.prog 100 #[.agg #[.int .i64 r, .int .i64 c, .slice a zs.length cap]] w (Gives (DoneRes r c (.slice a zs.length cap) (isMat r c zs)) w) := by
  have H := Lib.hid h
  clear h
  go_enter Try.func100, Try.ntmps100
  go_wp2_with fail
  refine (sIsMat r c a cap zs _ (H.out.below (((Below.refl _ _).alloc (Nat.le_refl _) _).alloc (by simp) _)) hn).mono ?_
  rintro e w1 ⟨rfl, hb⟩
  have K0 : Hid (Blk3 w1 w.heap.size 26 (.int .i64 r) (.int .i64 c) (.slice a zs.length cap)) := ((Blk3.at_ _ _ _ _ rfl).old _).keep hb (by simp <;> omega)
  have K1 : Hid (Blk3 w1 (w.heap.size + 1) 26 (.int .i64 0) (.int .i64 0) (.slice none 0 0)) := (Blk3.at_ _ _ _ _ (by simp)).keep hb (by simp)
  have B : Hid (Below w.heap.size w w1) := (((Below.refl _ _).alloc (Nat.le_refl _) _).alloc (by simp) _).trans (hb.mono (by simp <;> omega))
  clear hb
  obtain ⟨c0, c1, c2, -, -, -⟩ := K0.out.all
  obtain ⟨d0, d1, d2, g0, g1, g2⟩ := K1.out.all
  have BB : ∀ x y z, Below w.heap.size w (((w1.setCell ⟨w.heap.size + 1, 0, none⟩ x).setCell ⟨w.heap.size + 1, 1, none⟩ y).setCell ⟨w.heap.size + 1, 2, none⟩ z) := fun x y z =>
    ((B.out.setCell (Nat.le_succ _) _).setCell (Nat.le_succ _) _).setCell (Nat.le_succ _) _
  have BH := Lib.hid BB
  clear BB
  rcases Bool.eq_false_or_eq_true (isMat r c zs) with hm | hm
  · rw [hm]
    have M := Lib.hid hm
    clear hm
    go_wp2_with fail
    obtain ⟨E0, E1, E2, -, -, -⟩ := (((K1.out.set0 (.int .i64 r)).set1 (.int .i64 c)).set2 (.slice a zs.length cap)).all
    exact bodyPost_ret (v := .tuple #[.agg #[.int .i64 r, .int .i64 c, .slice a zs.length cap], .bool true]) (by simp [results, Try.results100, go_sem, E0, E1, E2]) rfl ⟨by rw [M.out]; rfl, BH.out _ _ _⟩
  · rw [hm]
    have M := Lib.hid hm
    clear hm
    go_wp2_with fail
    obtain ⟨E0, E1, E2, -, -, -⟩ := (((K1.out.set0 (.int .i64 0)).set1 (.int .i64 0)).set2 (.slice none 0 0)).all
    exact bodyPost_ret (v := .tuple #[.agg #[.int .i64 0, .int .i64 0, .slice none 0 0], .bool false]) (by simp [results, Try.results100, go_sem, E0, E1, E2]) rfl ⟨by rw [M.out]; rfl, BH.out _ _ _⟩
end Go.Proofs.Ytbdofgkcedpamaa
end

section
/-
  Contracts of Go's library at this translation, each one application of a theorem of the guide's library: slices_Clone_int, slices_Clone_int_zero, slices_Clone_int_nil.
-/
namespace Go.Proofs
open Go.Shelf
def Try.laysNm215_ren : Go.Shelf.Ren := ⟨fun | 15 => 74 | n => n, fun | 22 => 22 | 3 => 3 | 4 => 4 | n => n, fun | n => n⟩
theorem Try.laysNm215 : Go.Proofs.Lays2.n15 Try.prog Try.laysNm215_ren := {
  mixed := by kernel_rfl
  f15 := Try.func74.trans (congrArg some (by kernel_rfl))
  t3 := Try.underlying3
  a3 := Try.isAgg3
  z3 := Try.sizeOf3
  v3 := Try.zeroValue3
  t4 := Try.underlying4
  a4 := Try.isAgg4
  z4 := Try.sizeOf4
  v4 := Try.zeroValue4
  t22 := Try.underlying22
  a22 := Try.isAgg22
  z22 := Try.sizeOf22
  v22 := Try.zeroValue22
  i3 := by kernel_rfl }
open Go.RowKit Go.Lib in
theorem Try.slices_Clone_int (b off n c : Nat) (zs : List Int) (w : World) (hz : n ≤ zs.length) (hbig : n * 8 ≤ 140737488355328) (hc : ∀ j, j < zs.length → w.cell? ⟨b, off + j, none⟩ = some (.int .i64 (zs.getD j 0))) :
    Calls Try.prog 74 #[.slice (some ⟨b, off, none⟩) n c] w fun e w' => ∃ v', e = .returned v' ∧ w'.ownsRow w.heap.size 3 1 v' n ((zs.take n).map (Value.int .i64)) ∧ v' ≠ .slice none 0 0 ∧ Below w.heap.size w w' := Any.slices_Clone_int Try.laysNm215 b off n c zs w hz hbig hc
open Go.RowKit Go.Lib in
theorem Try.slices_Clone_int_nil (n c : Nat) (w : World) :
    Calls Try.prog 74 #[.slice none n c] w fun e w' => e = .returned (.slice none 0 0) ∧ w' = w := Any.slices_Clone_int_nil Try.laysNm215 n c w
open Go.RowKit Go.Lib in
theorem Try.slices_Clone_int_zero (a : Addr) (c : Nat) (w : World) :
    Calls Try.prog 74 #[.slice (some a) 0 c] w fun e w' => ∃ v', e = .returned v' ∧ w'.ownsRow w.heap.size 3 1 v' 0 [] ∧ v' ≠ .slice none 0 0 ∧ Below w.heap.size w w' := Any.slices_Clone_int_zero Try.laysNm215 a c w
end Go.Proofs
end

section
/-
  Chapter 3, in the program: slices.Clone over slices of ints.
-/
namespace Go.Proofs.Ytbdofgkcedpamaa
open Go.RowKit

/-- A copy in memory of the call's own. -/
def Copy (zs : List Int) (w : World) (e : Ending) (w' : World) : Prop := ∃ v, e = .returned v ∧ Own w.heap.size w' v zs ∧ Below w.heap.size w w'

theorem iClone (a : Option Addr) (cap : Nat) (zs : List Int) (w : World) (h : Rd w a zs) (hn : zs.length ≤ 16777216) :
    Calls Try.prog 74 #[.slice a zs.length cap] w (Copy zs w) := by
  rcases Nat.eq_zero_or_pos zs.length with e | hz
  · obtain rfl : zs = [] := List.eq_nil_of_length_eq_zero e
    cases a with
    | none => exact (Try.slices_Clone_int_nil 0 cap w).mono fun e w' ⟨h1, h2⟩ => ⟨_, h1, .inl ⟨rfl, rfl⟩, by rw [h2]; exact Below.refl _ _⟩
    | some x => exact (Try.slices_Clone_int_zero x cap w).mono fun e w' ⟨v, h1, h2, _, h3⟩ => ⟨v, h1, Own.of_row h2 (by simp), h3⟩
  · obtain ⟨b, o, rfl⟩ := h.addr hz
    refine (Try.slices_Clone_int b o zs.length cap zs w (Nat.le_refl _) (by omega) h.cells).mono fun e w' ⟨v, h1, h2, _, h3⟩ => ⟨v, h1, Own.of_row ?_ hn, h3⟩
    rw [List.take_length] at h2
    exact h2
/-- The first k cells are those of f, the others are as they were. -/
def mixL (xs : List Int) (k : Nat) (f : Nat → Int) : List Int := (List.range xs.length).map fun i => if i < k then f i else xs.getD i 0
theorem mixL_length (xs : List Int) (k : Nat) (f : Nat → Int) : (mixL xs k f).length = xs.length := by simp [mixL]
theorem mixL_zero (xs : List Int) (f : Nat → Int) : mixL xs 0 f = xs := by
  apply List.ext_getElem (by simp [mixL])
  intro i h1 h2
  simp [mixL, List.getD, h2]
theorem mixL_all (xs : List Int) (f : Nat → Int) : mixL xs xs.length f = (List.range xs.length).map f := by
  apply List.ext_getElem (by simp [mixL])
  intro i h1 h2
  have : i < xs.length := by simpa [mixL] using h1
  simp [mixL, this]
theorem mixL_at (xs : List Int) (k : Nat) (f : Nat → Int) : (mixL xs k f).getD k 0 = xs.getD k 0 := by
  unfold mixL List.getD
  rcases Nat.lt_or_ge k xs.length with h | h
  · simp [h]
  · simp [h]
theorem mixL_step (xs : List Int) (k : Nat) (f : Nat → Int) : (mixL xs k f).set k (f k) = mixL xs (k + 1) f := by
  apply List.ext_getElem (by simp [mixL])
  intro i h1 h2
  have hi : i < xs.length := by simpa [mixL] using h2
  rw [List.getElem_set]
  by_cases e : k = i
  · subst e; simp [mixL]
  · simp only [e, if_false]
    simp only [mixL, List.getElem_map, List.getElem_range]
    by_cases h3 : i < k
    · rw [if_pos h3, if_pos (by omega)]
    · rw [if_neg h3, if_neg (by omega)]
theorem Own.cases {B : Nat} {w : World} {v : Value} {zs : List Int} (h : Own B w v zs) : (v = .slice none 0 0 ∧ zs = []) ∨ ∃ (g cap : Nat), v = .slice (some ⟨g, 0, none⟩) zs.length cap ∧ B ≤ g ∧ Ints w g zs ∧ zs.length ≤ cap := by
  rcases h with h | ⟨g, cap, hv, hB, hi, hl, _⟩
  · exact .inl h
  · exact .inr ⟨g, cap, hv, hB, hi, hl⟩
theorem In.cases {B T : Nat} {w : World} {v : Value} {zs : List Int} (h : In B T w v zs) : (v = .slice none 0 0 ∧ zs = []) ∨ ∃ (g cap : Nat), v = .slice (some ⟨g, 0, none⟩) zs.length cap ∧ B ≤ g ∧ g < T ∧ Ints w g zs ∧ zs.length ≤ cap := by
  rcases h with h | ⟨g, cap, hv, hB, hT, hi, hl, _⟩
  · exact .inl h
  · exact .inr ⟨g, cap, hv, hB, hT, hi, hl⟩
/-- A clone of n ints. -/
def CopyN (n : Nat) (zs : List Int) (w : World) (e : Ending) (w' : World) : Prop := ∃ q qc, e = .returned (.slice q n qc) ∧ Own w.heap.size w' (.slice q n qc) zs ∧ Below w.heap.size w w'
theorem iCloneN (a : Option Addr) (cap n : Nat) (zs : List Int) (hz : zs.length = n) (w : World) (h : Rd w a zs) (hn : n ≤ 16777216) :
    Calls Try.prog 74 #[.slice a n cap] w (CopyN n zs w) := by
  subst hz
  refine (iClone a cap zs w h hn).mono ?_
  rintro e w' ⟨v, rfl, own, hb⟩
  obtain ⟨q, qc, rfl, -, -⟩ := own.form
  exact ⟨q, qc, rfl, own, hb⟩
theorem seven {W w' : World} {b : Nat} {t : TypeId} {p q r : Value} (h0 : Blk3 W b t p q r) (hb : Below W.heap.size W w') :
    w'.cell? ⟨b, 0, none⟩ = some p ∧ w'.cell? ⟨b, 1, none⟩ = some q ∧ w'.cell? ⟨b, 2, none⟩ = some r :=
  ⟨(h0.keep hb h0.lt).cell0, (h0.keep hb h0.lt).cell1, (h0.keep hb h0.lt).cell2⟩
end Go.Proofs.Ytbdofgkcedpamaa
end

section
/-
  Chapter 3, in the program: a matrix copied.
-/
namespace Go.Proofs.Ytbdofgkcedpamaa
set_option maxRecDepth 100000
open Go.RowKit

def CopyM (r c : Int) (n : Nat) (zs : List Int) (w : World) (e : Ending) (w' : World) : Prop := ∃ q qc, e = .returned (.agg #[.int .i64 r, .int .i64 c, .slice q n qc]) ∧ Own w.heap.size w' (.slice q n qc) zs ∧ Below w.heap.size w w'
set_option maxHeartbeats 400000 in
theorem iCopyOf (r c : Int) (a : Option Addr) (cap n : Nat) (zs : List Int) (hz : zs.length = n) (w : World) (h : Rd w a zs) (hn : n ≤ 16777216) :
    Calls Try.prog 50 #[.agg #[.int .i64 r, .int .i64 c, .slice a n cap]] w (CopyM r c n zs w) := by
  have H := Lib.hid h
  have HZ := Lib.hid hz
  have K0 : Hid (Blk3 ((w.alloc (.cells #[.int .i64 r, .int .i64 c, .slice a n cap] 26)).alloc (.cells #[.int .i64 0, .int .i64 0, .slice none 0 0] 26)) w.heap.size 26 (.int .i64 r) (.int .i64 c) (.slice a n cap)) := (Blk3.at_ _ _ _ _ rfl).old _
  have K1 : Hid (Blk3 ((w.alloc (.cells #[.int .i64 r, .int .i64 c, .slice a n cap] 26)).alloc (.cells #[.int .i64 0, .int .i64 0, .slice none 0 0] 26)) (w.heap.size + 1) 26 (.int .i64 0) (.int .i64 0) (.slice none 0 0)) := Blk3.at_ _ _ _ _ (by simp)
  have B : Hid (Below w.heap.size w ((w.alloc (.cells #[.int .i64 r, .int .i64 c, .slice a n cap] 26)).alloc (.cells #[.int .i64 0, .int .i64 0, .slice none 0 0] 26))) := ((Below.refl _ _).alloc (Nat.le_refl _) _).alloc (by simp) _
  clear h hz
  go_enter Try.func50, Try.ntmps50
  go_wp2_with fail
  refine wp_region_held_drew (S := fun w' => Blk3 w' w.heap.size 26 (.int .i64 r) (.int .i64 c) (.slice a n cap) ∧ (∃ p q r, Blk3 w' (w.heap.size + 1) 26 p q r) ∧ Below w.heap.size w w') (by kernel_rfl) ⟨K0.out.drew, ⟨_, _, _, K1.out.drew⟩, B.out.drew⟩ (fun hH => ?_)
  refine wpAnyH_take (i := 0) (v := ?_) (by simp only [List.getElem?_toArray, List.getElem?_cons_zero]; rfl) (by kernel_rfl) (by kernel_rfl) (by kernel_rfl) (by exact fun _ _ _ h => h) (Or.inl ⟨by rfl, ?_⟩) hH ?_
  rotate_left
  · (intro wS hS; (try dsimp only at hS); obtain ⟨hS, -, -⟩ := hS; obtain ⟨k1, k2, k3, -, -, -⟩ := hS.all; go_simp; try rfl)
  try simp only [Act.put, List.setIfInBounds_toArray, List.set_cons_zero, List.set_cons_succ]
  refine wpAnyH_take (i := 1) (v := ?_) (by simp only [List.getElem?_toArray, List.getElem?_cons_succ, List.getElem?_cons_zero]; rfl) (by kernel_rfl) (by kernel_rfl) (by kernel_rfl) (by exact fun _ _ _ h => h) (Or.inl ⟨by rfl, ?_⟩) hH ?_
  rotate_left
  · (intro wS hS; (try dsimp only at hS); obtain ⟨hS, -, -⟩ := hS; obtain ⟨k1, k2, k3, -, -, -⟩ := hS.all; go_simp; try rfl)
  try simp only [Act.put, List.setIfInBounds_toArray, List.set_cons_zero, List.set_cons_succ]
  refine wpAnyH_take (i := 2) (v := ?_) (by simp only [List.getElem?_toArray, List.getElem?_cons_succ, List.getElem?_cons_zero]; rfl) (by kernel_rfl) (by kernel_rfl) (by kernel_rfl) (by exact fun _ _ _ h => h) (Or.inl ⟨by rfl, ?_⟩) hH ?_
  rotate_left
  · (intro wS hS; (try dsimp only at hS); obtain ⟨hS, -, -⟩ := hS; obtain ⟨k1, k2, k3, -, -, -⟩ := hS.all; go_simp; try rfl)
  try simp only [Act.put, List.setIfInBounds_toArray, List.set_cons_zero, List.set_cons_succ]
  refine wpAnyH_take (i := 3) (v := ?_) (by simp only [List.getElem?_toArray, List.getElem?_cons_succ, List.getElem?_cons_zero]; rfl) (by kernel_rfl) (by kernel_rfl) (by kernel_rfl) (by exact fun _ _ _ h => h) (Or.inl ⟨by rfl, ?_⟩) hH ?_
  rotate_left
  · (intro wS hS; (try dsimp only at hS); obtain ⟨hS, -, -⟩ := hS; obtain ⟨k1, k2, k3, -, -, -⟩ := hS.all; go_simp; try rfl)
  try simp only [Act.put, List.setIfInBounds_toArray, List.set_cons_zero, List.set_cons_succ]
  refine wpAnyH_take (i := 4) (v := ?_) (by simp only [List.getElem?_toArray, List.getElem?_cons_succ, List.getElem?_cons_zero]; rfl) (by kernel_rfl) (by kernel_rfl) (by kernel_rfl) (by exact fun _ _ _ h => h) (Or.inl ⟨by rfl, ?_⟩) hH ?_
  rotate_left
  · (intro wS hS; (try dsimp only at hS); obtain ⟨hS, -, -⟩ := hS; obtain ⟨k1, k2, k3, -, -, -⟩ := hS.all; go_simp; try rfl)
  try simp only [Act.put, List.setIfInBounds_toArray, List.set_cons_zero, List.set_cons_succ]
  refine wpAnyH_take (i := 5) (v := ?_) (by simp only [List.getElem?_toArray, List.getElem?_cons_succ, List.getElem?_cons_zero]; rfl) (by kernel_rfl) (by kernel_rfl) (by kernel_rfl) (by exact fun _ _ _ h => h) (Or.inl ⟨by rfl, ?_⟩) hH ?_
  rotate_left
  · (intro wS hS; (try dsimp only at hS); obtain ⟨hS, -, -⟩ := hS; obtain ⟨k1, k2, k3, -, -, -⟩ := hS.all; go_simp; try rfl)
  try simp only [Act.put, List.setIfInBounds_toArray, List.set_cons_zero, List.set_cons_succ]
  refine wpAnyH_ready (rs := [6]) (by kernel_rfl) (by simp) ?_
  refine AllReadyH.cons (by simp only [List.getElem?_toArray, List.getElem?_cons_succ, List.getElem?_cons_zero]; rfl) (fun K hK => ?_) AllReadyH.nil
  go_simp
  obtain ⟨hH0, ⟨p, q, s, hH1⟩, hH2⟩ := hH
  have l1 := hH1.lt
  (with_reducible refine (iCloneN a cap n zs HZ.out _ (H.out.below hH2) (by omega)).mono ?_)
  rintro e v1 ⟨q0, qc, rfl, own, hb1⟩
  try dsimp only
  have J0 := Lib.hid (hH0.step hb1)
  have J1 := Lib.hid (hH1.step hb1)
  have JB := Lib.hid (stepB hH2 hb1)
  have O := Lib.hid own
  have l2 : w.heap.size + 1 < _ := l1
  refine hK.out _ _ ⟨J0.out, ⟨_, _, _, J1.out⟩, JB.out⟩ (fun hH => ?_)
  clear hK K own
  try simp only [Act.put, List.setIfInBounds_toArray, List.set_cons_zero, List.set_cons_succ]
  refine wpAnyH_take (i := 7) (v := ?_) (by simp only [List.getElem?_toArray, List.getElem?_cons_succ, List.getElem?_cons_zero]; rfl) (by kernel_rfl) (by kernel_rfl) (by kernel_rfl) (by exact fun _ _ _ h => h) (Or.inl ⟨by rfl, ?_⟩) hH ?_
  rotate_left
  · (intro wS hS; clear hS; go_simp; try rfl)
  try simp only [Act.put, List.setIfInBounds_toArray, List.set_cons_zero, List.set_cons_succ]
  refine wpAnyH_ready (rs := [8]) (by kernel_rfl) (by simp) ?_
  refine AllReadyH.cons (by simp only [List.getElem?_toArray, List.getElem?_cons_succ, List.getElem?_cons_zero]; rfl) (fun K hK => ?_) AllReadyH.nil
  obtain ⟨y0, y1, y2, y3, y4, y5⟩ := J1.out.all
  clear hH
  go_simp
  have Z0 := Lib.hid (((J0.out.far (a := ⟨w.heap.size + 1, 0, none⟩) (by simp) (.int .i64 r)).far (a := ⟨w.heap.size + 1, 1, none⟩) (by simp) (.int .i64 c)).far (a := ⟨w.heap.size + 1, 2, none⟩) (by simp) (.slice q0 n qc))
  have Z1 := Lib.hid (((J1.out.set0 (.int .i64 r)).set1 (.int .i64 c)).set2 (.slice q0 n qc))
  have OO := Lib.hid (((O.out.far (a := ⟨w.heap.size + 1, 0, none⟩) l2 (.int .i64 r)).far (a := ⟨w.heap.size + 1, 1, none⟩) l2 (.int .i64 c)).far (a := ⟨w.heap.size + 1, 2, none⟩) l2 (.slice q0 n qc))
  refine hK.out _ _ ⟨Z0.out, ⟨_, _, _, Z1.out⟩, ((JB.out.setCell (Nat.le_succ _) _).setCell (Nat.le_succ _) _).setCell (Nat.le_succ _) _⟩ (fun hH => ?_)
  have ZB := Lib.hid hH.2.2
  clear hK K hH
  refine wpAnyH_done (by kernel_rfl) ?_ _
  go_wp2_with fail
  obtain ⟨E0, E1, E2, -, -, -⟩ := Z1.out.all
  exact bodyPost_ret (v := .agg #[.int .i64 r, .int .i64 c, .slice q0 n qc]) (by simp [results, Try.results50, go_sem, E0, E1, E2]) rfl ⟨q0, qc, rfl, OO.out.le (by omega), ZB.out⟩
end Go.Proofs.Ytbdofgkcedpamaa
end

section
/-
  Chapter 3, in the program: IsMatrix.
-/
namespace Go.Proofs.Ytbdofgkcedpamaa
open Go.RowKit

theorem iSize_t (n : Int) (w : World) (h1 : 0 ≤ n) (h2 : n ≤ 24) :
    Calls Try.prog 87 #[.int .i64 n] w fun e w' => e = .returned (.bool true) ∧ w = w' := by
  go_enter Try.func87, Try.ntmps87
  go_wp2
  go_ret
  exact ⟨rfl, rfl⟩
theorem iSize_f (n : Int) (w : World) (h : n < 0 ∨ 24 < n) :
    Calls Try.prog 87 #[.int .i64 n] w fun e w' => e = .returned (.bool false) ∧ w = w' := by
  by_cases h1 : 0 ≤ n
  · have h2 : decide (n ≤ 24) = false := by simp; omega
    go_enter Try.func87, Try.ntmps87
    go_wp2
    go_ret
    exact ⟨rfl, rfl⟩
  · go_enter Try.func87, Try.ntmps87
    go_wp2
    go_ret
    exact ⟨rfl, rfl⟩
theorem iSize (n : Int) (w : World) :
    Calls Try.prog 87 #[.int .i64 n] w fun e w' => e = .returned (.bool (decide (SizeP n))) ∧ w = w' := by
  by_cases h : SizeP n
  · rw [decide_eq_true h]; exact iSize_t n w h.1 h.2
  · rw [decide_eq_false h]; exact iSize_f n w (by unfold SizeP at h; omega)
theorem iIsNum (n : Int) (w : World) :
    Calls Try.prog 90 #[.int .i64 n] w fun e w' => e = .returned (.bool (decide (NumP n))) ∧ w = w' := by
  by_cases h : NumP n
  · rw [decide_eq_true h]; exact iIsNum_t n w h.1 h.2
  · rw [decide_eq_false h]; exact iIsNum_f n w (by unfold NumP at h; omega)
/-- The step of IsMatrix's fold. -/
theorem iStep (b : Bool) (i j z : Int) (w : World) :
    Calls Try.prog 89 #[.bool b, .int .i64 i, .int .i64 j, .int .i64 z] w fun e w' => e = .returned (.bool (b && decide (NumP z))) ∧ w = w' := by
  cases b
  · go_enter Try.func89, Try.ntmps89
    go_wp2_with fail
    go_ret
    exact ⟨rfl, rfl⟩
  · go_enter Try.func89, Try.ntmps89
    go_wp2_with fail
    refine (iIsNum z _).mono ?_
    rintro e w' ⟨rfl, rfl⟩
    go_wp2_with fail
    go_ret
    exact ⟨rfl, rfl⟩
theorem take_nums (zs : List Int) (k : Nat) (hk : k < zs.length) : nums (zs.take (k + 1)) = (nums (zs.take k) && decide (NumP (zs.getD k 0))) := by
  unfold nums
  rw [List.take_succ_eq_append_getElem hk, List.all_append]
  simp only [List.all_cons, List.all_nil, Bool.and_true, List.getD, List.getElem?_eq_getElem hk, Option.getD_some]
set_option maxHeartbeats 400000 in
theorem iFoldB (r c : Int) (a : Option Addr) (cap : Nat) (zs : List Int) (w : World) (h : Rd w a zs) (hn : zs.length ≤ 16777216) (hc : zs.length = 0 ∨ 0 < c) :
    Calls Try.prog 88 #[.agg #[.int .i64 r, .int .i64 c, .slice a zs.length cap], .bool true, .func (.func 89) #[] #[]] w (Gives (.bool (nums zs)) w) := by
  have B0 : ∀ o, Below w.heap.size w (w.alloc o) := fun o => (Below.refl _ _).alloc (Nat.le_refl _) o
  have BH := Lib.hid B0
  have H := Lib.hid h
  obtain ⟨n, hnn⟩ : ∃ n, zs.length = n := ⟨_, rfl⟩
  have HN := Lib.hid hnn
  rw [hnn] at hn hc ⊢
  clear h B0 hnn
  go_enter Try.func88, Try.ntmps88
  go_wp2_with fail
  go_loopw [7, 8, 9, 14] (fun b _ _ i wr => ∃ k : Nat, i = .int .i64 k ∧ k ≤ n ∧ b = .bool (nums (zs.take k)) ∧ ∃ q, wr = (w.alloc (.cells #[.int .i64 r, .int .i64 c, .slice a n cap] 26)).drewN q) (fun _ _ _ i _ => n - (intOf i).toNat)
  case atStart => exact ⟨0, rfl, by omega, rfl, 0, rfl⟩
  case round =>
    obtain ⟨k, rfl, hk, rfl, q, rfl⟩ := hrel
    by_cases hlt : k < n
    · have c0 : (c == 0) = false := by simp; omega
      obtain ⟨b, o, rfl, hcell⟩ := (H.out.below (BH.out (.cells #[.int .i64 r, .int .i64 c, .slice a n cap] 26))) k (by rw [HN.out]; exact hlt)
      obtain ⟨z, hz⟩ : ∃ z, zs.getD k 0 = z := ⟨_, rfl⟩
      obtain ⟨bb, hbb⟩ : ∃ bb, nums (zs.take k) = bb := ⟨_, rfl⟩
      rw [hz] at hcell
      have Z := Lib.hid hz
      have BB := Lib.hid hbb
      rw [hbb]
      clear hz hbb
      go_wp2_with fail
      go_quiet ((refine (iStep _ _ _ _ _).mono ?_; rintro e w' ⟨rfl, rfl⟩; exact ⟨rfl, _, rfl⟩))
      go_wp2_with fail
      go_roundw
      case rel => exact ⟨k + 1, by go_num, by omega, by rw [take_nums zs k (by rw [HN.out]; exact hlt), BB.out, Z.out], _, rfl⟩
      case measure => simp [intOf]; omega
    · have hkn : k = n := by omega
      subst hkn
      have E : Hid (nums (zs.take k) = nums zs) := by show nums (zs.take k) = nums zs; rw [← HN.out, List.take_length]
      go_wp2_with fail
      go_ret
      exact ⟨by rw [E.out]; rfl, below_drewN (BH.out _) q⟩

set_option maxHeartbeats 400000 in
theorem iIsMat (r c : Int) (a : Option Addr) (cap : Nat) (zs : List Int) (w : World) (h : Rd w a zs) (hn : zs.length ≤ 16777216) :
    Calls Try.prog 49 #[.agg #[.int .i64 r, .int .i64 c, .slice a zs.length cap]] w (Gives (.bool (isMat r c zs)) w) := by
  have B0 : ∀ o, Below w.heap.size w (w.alloc o) := fun o => (Below.refl _ _).alloc (Nat.le_refl _) o
  have BH := Lib.hid B0
  have H := Lib.hid h
  clear h B0
  obtain ⟨n, hnn⟩ : ∃ n, zs.length = n := ⟨_, rfl⟩
  have HN := Lib.hid hnn
  have ED : isMat r c zs = (decide (SizeP r) && decide (SizeP c) && decide ((n : Int) = r * c) && nums zs) := by unfold isMat; rw [hnn]
  have E := Lib.hid ED
  rw [hnn] at hn ⊢
  clear hnn ED
  by_cases hr : 0 ≤ r ∧ r ≤ 24
  · by_cases hc : 0 ≤ c ∧ c ≤ 24
    · obtain ⟨m1, m2⟩ := mul_size r c hr hc
      by_cases hl : (n : Int) = r * c
      · have l1 : ((n : Int) != r * c) = false := by simpa using hl
        have l2 : ((n : Int) == r * c) = true := by simpa using hl
        have E2 : Hid (isMat r c zs = nums zs) := by
          show isMat r c zs = nums zs
          rw [E.out, show decide (SizeP r) = true from decide_eq_true hr, show decide (SizeP c) = true from decide_eq_true hc, show decide ((n : Int) = r * c) = true from decide_eq_true hl]; rfl
        have hz : zs.length = 0 ∨ 0 < c := by
          rw [HN.out]
          rcases Nat.eq_zero_or_pos n with e | e
          · exact .inl e
          · right
            rcases Int.lt_or_lt_of_ne (a := c) (b := 0) (fun e0 => by rw [e0, Int.mul_zero] at hl; omega) with h | h <;> omega
        have HZ := Lib.hid hz
        clear hl hz
        obtain ⟨r1, r2⟩ := hr
        obtain ⟨c1, c2⟩ := hc
        go_enter Try.func49, Try.ntmps49
        go_wp2_with (go_at_call 87; refine (iSize_t _ _ (by omega) (by omega)).mono ?_; rintro e w' ⟨rfl, rfl⟩)
        have ST := iFoldB r c a cap zs _ (H.out.below (BH.out (.cells #[.int .i64 r, .int .i64 c, .slice a n cap] 26))) (by rw [HN.out]; exact hn) HZ.out
        rw [HN.out] at ST
        refine ST.mono ?_
        clear ST
        rintro e w' ⟨rfl, hb⟩
        have HB := Lib.hid ((BH.out _).trans (hb.mono (BH.out (.cells #[.int .i64 r, .int .i64 c, .slice a n cap] 26)).size))
        clear hb
        go_wp2_with fail
        go_ret
        exact ⟨by rw [E2.out]; rfl, HB.out⟩
      · have l1 : ((n : Int) != r * c) = true := by simpa using hl
        have l2 : ((n : Int) == r * c) = false := by simpa using hl
        have E2 : Hid (isMat r c zs = false) := by
          show isMat r c zs = false
          rw [E.out, show decide ((n : Int) = r * c) = false from decide_eq_false hl]; simp
        clear hl
        obtain ⟨r1, r2⟩ := hr
        obtain ⟨c1, c2⟩ := hc
        go_enter Try.func49, Try.ntmps49
        go_wp2_with (go_at_call 87; refine (iSize_t _ _ (by omega) (by omega)).mono ?_; rintro e w' ⟨rfl, rfl⟩)
        go_ret
        exact ⟨by rw [E2.out]; rfl, BH.out _⟩
    · have E2 : Hid (isMat r c zs = false) := by
        show isMat r c zs = false
        rw [E.out, show decide (SizeP c) = false from decide_eq_false hc]; simp
      have hc' : c < 0 ∨ 24 < c := by omega
      clear hc
      go_enter Try.func49, Try.ntmps49
      go_wp2_with fail
      refine (iSize_t r _ hr.1 hr.2).mono ?_
      rintro e w' ⟨rfl, rfl⟩
      go_wp2_with fail
      refine (iSize_f c _ hc').mono ?_
      rintro e w' ⟨rfl, rfl⟩
      go_wp2_with fail
      go_ret
      exact ⟨by rw [E2.out]; rfl, BH.out _⟩
  · have E2 : Hid (isMat r c zs = false) := by
      show isMat r c zs = false
      rw [E.out, show decide (SizeP r) = false from decide_eq_false hr]; simp
    have hr' : r < 0 ∨ 24 < r := by omega
    clear hr
    go_enter Try.func49, Try.ntmps49
    go_wp2_with fail
    refine (iSize_f r _ hr').mono ?_
    rintro e w' ⟨rfl, rfl⟩
    go_wp2_with fail
    go_ret
    exact ⟨by rw [E2.out]; rfl, BH.out _⟩
end Go.Proofs.Ytbdofgkcedpamaa
end

section
/-
  Chapter 3, in the program: a row that shares its memory with the matrix.
-/
namespace Go.Proofs.Ytbdofgkcedpamaa
set_option maxRecDepth 100000
open Go.RowKit

/-- The cells of a row. -/
def rwL (c : Nat) (v : Nat → Int) : List Int := (List.range c).map v
theorem rwL_length (c : Nat) (v : Nat → Int) : (rwL c v).length = c := by simp [rwL]
theorem rwL_at {c : Nat} {v : Nat → Int} {j : Nat} (hj : j < c) : (rwL c v).getD j 0 = v j := by simp [rwL, List.getD, hj]
theorem rwL_congr {c : Nat} {u v : Nat → Int} (h : ∀ j, j < c → u j = v j) : rwL c u = rwL c v := List.map_congr_left fun j hj => h j (List.mem_range.mp hj)
/-- What rowIn gives: a slice q' of the room behind cell D of what q begins. -/
def RowAt (q : Option Addr) (D c : Nat) (w : World) (e : Ending) (w' : World) : Prop :=
  ∃ (q' : Option Addr) (m' : Nat), e = .returned (.slice q' c m') ∧ c ≤ m' ∧ (∀ g o : Nat, q = some ⟨g, o, none⟩ → 0 < c → q' = some ⟨g, o + D, none⟩) ∧ (q = none → q' = none) ∧ Below w.heap.size w w'
/-- A row of what is read. -/
theorem Rd.row {w : World} {q q' : Option Addr} {xs : List Int} {r c i : Nat} (h : Rd w q xs) (hx : xs.length = r * c) (hi : i < r) (hq : ∀ g o : Nat, q = some ⟨g, o, none⟩ → 0 < c → q' = some ⟨g, o + i * c, none⟩) : Rd w q' (rwL c (mxC c xs i)) := fun j hj => by
  rw [rwL_length] at hj
  obtain ⟨b, o, ha, hc⟩ := h (i * c + j) (by rw [hx]; exact idx_lt hi hj)
  refine ⟨b, o + i * c, hq b o ha (by omega), ?_⟩
  rw [rwL_at hj, Nat.add_assoc]
  exact hc
set_option maxHeartbeats 1000000 in
theorem iRowIn (r c i D N cap : Nat) (q : Option Addr) (w : World) (hq : Spot q) (hD : i * c = D) (hN : D + c ≤ N) (hc : N ≤ cap) (hn : q = none → cap = 0) (h1 : N ≤ 600) (hi : i ≤ 600) :
    Calls Try.prog 52 #[.agg #[.int .i64 r, .int .i64 c, .slice q N cap], .int .i64 i] w (RowAt q D c w) := by
  have u1 : (i : Int) * (c : Int) = (D : Int) := by rw [← hD]; exact (Int.natCast_mul _ _).symm
  have u2 : ((i : Int) + 1) * (c : Int) = ((D + c : Nat) : Int) := by rw [Int.add_mul, Int.one_mul, u1]; rfl
  have v1 : IntKind.i64.wrap ((i : Int) * (c : Int)) = (D : Int) := by rw [u1]; exact IntWalk.i64_in _ (by omega)
  have v2 : IntKind.i64.wrap ((i : Int) + 1) = (i : Int) + 1 := IntWalk.i64_in _ (by omega)
  have v3 : IntKind.i64.wrap (((i : Int) + 1) * (c : Int)) = ((D + c : Nat) : Int) := by rw [u2]; exact IntWalk.i64_in _ (by omega)
  have Z : Hid (c = 0 → D = 0) := fun h => by rw [← hD, h, Nat.mul_zero]
  have Dm : D + c ≤ cap := by omega
  have K0 : Hid (Blk3 (w.alloc (.cells #[.int .i64 r, .int .i64 c, .slice q N cap] 26)) w.heap.size 26 (.int .i64 r) (.int .i64 c) (.slice q N cap)) := Blk3.at_ _ _ _ _ rfl
  have B : Hid (Below w.heap.size w (w.alloc (.cells #[.int .i64 r, .int .i64 c, .slice q N cap] 26))) := (Below.refl _ _).alloc (Nat.le_refl _) _
  clear hD u1 u2
  rcases hq with rfl | ⟨g, o, rfl⟩
  · obtain rfl : cap = 0 := hn rfl
    obtain rfl : c = 0 := by omega
    obtain rfl : D = 0 := by omega
    obtain rfl : N = 0 := by omega
    go_enter Try.func52, Try.ntmps52
    go_wp2_with fail
    exact bodyPost_ret (v := .slice none 0 0) (by simp [results, Try.results52, go_sem]) rfl ⟨none, 0, rfl, Nat.le_refl _, (fun g o h => by cases h), (fun _ => rfl), B.out⟩
  · rcases Nat.lt_or_ge D cap with hlt | hge
    · go_enter Try.func52, Try.ntmps52
      go_wp2_with fail
      rw [show D + c - D = c by omega]
      exact bodyPost_ret (v := .slice (some ⟨g, o + D, none⟩) c (cap - D)) (by simp [results, Try.results52, go_sem]) rfl ⟨_, _, rfl, by omega, (fun g' o' h _ => by injection h with h; injection h with h1 h2; rw [h1, h2]), (fun h => by cases h), B.out⟩
    · obtain rfl : c = 0 := by omega
      obtain rfl : D = 0 := Z.out rfl
      obtain rfl : cap = 0 := by omega
      obtain rfl : N = 0 := by omega
      go_enter Try.func52, Try.ntmps52
      go_wp2_with fail
      exact bodyPost_ret (v := .slice (some ⟨g, o, none⟩) 0 0) (by simp [results, Try.results52, go_sem]) rfl ⟨_, _, rfl, Nat.le_refl _, (fun g' o' h h0 => by omega), (fun h => by cases h), B.out⟩
end Go.Proofs.Ytbdofgkcedpamaa
end

section
/-
  Chapter 3, in the program: a matrix that is handed on if it is valid.
-/
namespace Go.Proofs.Ytbdofgkcedpamaa
open Go.RowKit

set_option maxHeartbeats 400000 in
theorem iDone (r c : Int) (a : Option Addr) (cap : Nat) (zs : List Int) (w : World) (h : Rd w a zs) (hn : zs.length ≤ 16777216) :
    Calls Try.prog 65 #[.agg #[.int .i64 r, .int .i64 c, .slice a zs.length cap]] w (Gives (DoneRes r c (.slice a zs.length cap) (isMat r c zs)) w) := by
  have H := Lib.hid h
  clear h
  go_enter Try.func65, Try.ntmps65
  go_wp2_with fail
  refine (iIsMat r c a cap zs _ (H.out.below (((Below.refl _ _).alloc (Nat.le_refl _) _).alloc (by simp) _)) hn).mono ?_
  rintro e w1 ⟨rfl, hb⟩
  have K0 : Hid (Blk3 w1 w.heap.size 26 (.int .i64 r) (.int .i64 c) (.slice a zs.length cap)) := ((Blk3.at_ _ _ _ _ rfl).old _).keep hb (by simp <;> omega)
  have K1 : Hid (Blk3 w1 (w.heap.size + 1) 26 (.int .i64 0) (.int .i64 0) (.slice none 0 0)) := (Blk3.at_ _ _ _ _ (by simp)).keep hb (by simp)
  have B : Hid (Below w.heap.size w w1) := (((Below.refl _ _).alloc (Nat.le_refl _) _).alloc (by simp) _).trans (hb.mono (by simp <;> omega))
  clear hb
  obtain ⟨c0, c1, c2, -, -, -⟩ := K0.out.all
  obtain ⟨d0, d1, d2, g0, g1, g2⟩ := K1.out.all
  have BB : ∀ x y z, Below w.heap.size w (((w1.setCell ⟨w.heap.size + 1, 0, none⟩ x).setCell ⟨w.heap.size + 1, 1, none⟩ y).setCell ⟨w.heap.size + 1, 2, none⟩ z) := fun x y z =>
    ((B.out.setCell (Nat.le_succ _) _).setCell (Nat.le_succ _) _).setCell (Nat.le_succ _) _
  have BH := Lib.hid BB
  clear BB
  rcases Bool.eq_false_or_eq_true (isMat r c zs) with hm | hm
  · rw [hm]
    have M := Lib.hid hm
    clear hm
    go_wp2_with fail
    obtain ⟨E0, E1, E2, -, -, -⟩ := (((K1.out.set0 (.int .i64 r)).set1 (.int .i64 c)).set2 (.slice a zs.length cap)).all
    exact bodyPost_ret (v := .tuple #[.agg #[.int .i64 r, .int .i64 c, .slice a zs.length cap], .bool true]) (by simp [results, Try.results65, go_sem, E0, E1, E2]) rfl ⟨by rw [M.out]; rfl, BH.out _ _ _⟩
  · rw [hm]
    have M := Lib.hid hm
    clear hm
    go_wp2_with fail
    obtain ⟨E0, E1, E2, -, -, -⟩ := (((K1.out.set0 (.int .i64 0)).set1 (.int .i64 0)).set2 (.slice none 0 0)).all
    exact bodyPost_ret (v := .tuple #[.agg #[.int .i64 0, .int .i64 0, .slice none 0 0], .bool false]) (by simp [results, Try.results65, go_sem, E0, E1, E2]) rfl ⟨by rw [M.out]; rfl, BH.out _ _ _⟩

end Go.Proofs.Ytbdofgkcedpamaa
end

section
/-
  Chapter 3, in the program: a fold whose closure writes into its value (MultiplyMatrices).
-/
namespace Go.Proofs.Ytbdofgkcedpamaa
set_option maxRecDepth 100000
open Go.RowKit

theorem sevenG {W w' : World} {b g : Nat} {t : TypeId} {p q r : Value} (h0 : Blk3 W b t p q r) (hg : W.grownBy w' (some g)) (hb : b ≠ g) :
    w'.cell? ⟨b, 0, none⟩ = some p ∧ w'.cell? ⟨b, 1, none⟩ = some q ∧ w'.cell? ⟨b, 2, none⟩ = some r :=
  ⟨(h0.keepOne hg hb).cell0, (h0.keepOne hg hb).cell1, (h0.keepOne hg hb).cell2⟩
theorem far_of {w : World} {a : Option Addr} {zs : List Int} {n : Nat} (h : Rd w a zs) (hn : zs.length = n) : ∀ b o : Nat, a = some ⟨b, o, none⟩ → 0 < n → b ≠ w.heap.size := by
  intro b o e hz
  obtain ⟨b', o', e', hc⟩ := h 0 (by omega)
  rw [e] at e'
  injection e' with e'
  injection e' with e1 e2
  have := World.block_lt_of_cell? w _ hc
  simp at this
  omega
set_option maxRecDepth 100000 in
set_option maxHeartbeats 1000000 in
theorem iFoldM (pb R C n : Nat) (a : Option Addr) (cap : Nat) (zs : List Int) (g m mc : Nat) (L : Nat → List Int) (w : World) (hx : zs.length = n) (h : Rd w a zs) (hn : n = R * C) (hR : R ≤ 24) (hC : C ≤ 24) (hg : Ints w g (L 0)) (hz : ∀ b o : Nat, a = some ⟨b, o, none⟩ → 0 < n → b ≠ g)
    (step : ∀ (k : Nat) (w1 : World), k < n → w.grownBy w1 (some g) → Ints w1 g (L k) → Calls Try.prog 64 #[.slice (some ⟨g, 0, none⟩) m mc, .int .i64 ((k : Int) / (C : Int)), .int .i64 ((k : Int) % (C : Int)), .int .i64 (zs.getD k 0), .pointer (some ⟨pb, 0, none⟩)] w1
      (fun e w2 => e = .returned (.slice (some ⟨g, 0, none⟩) m mc) ∧ Ints w2 g (L (k + 1)) ∧ w1.grownBy w2 (some g))) :
    Calls Try.prog 63 #[.agg #[.int .i64 R, .int .i64 C, .slice a n cap], .slice (some ⟨g, 0, none⟩) m mc, .func (.func 64) #[] #[.pointer (some ⟨pb, 0, none⟩)]] w
      (fun e w' => e = .returned (.slice (some ⟨g, 0, none⟩) m mc) ∧ Ints w' g (L n) ∧ w.grownBy w' (some g)) := by
  have H := Lib.hid h
  have ST := Lib.hid step
  have HZ := Lib.hid hz
  have hle : R * C ≤ 24 * 24 := Nat.mul_le_mul hR hC
  have HN := Lib.hid hx
  rw [← hn] at hle
  have HM := Lib.hid hn
  have gw : w.grownBy (w.alloc (.cells #[.int .i64 R, .int .i64 C, .slice a n cap] 26)) (some g) := World.grownBy_alloc w _ _
  have G0 := Lib.hid gw
  have I0 := Lib.hid (hg.old (.cells #[.int .i64 R, .int .i64 C, .slice a n cap] 26))
  have K0 : Hid (Blk3 (w.alloc (.cells #[.int .i64 R, .int .i64 C, .slice a n cap] 26)) w.heap.size 26 (.int .i64 R) (.int .i64 C) (.slice a n cap)) := Blk3.at_ _ _ _ _ rfl
  have lg := hg.lt
  clear h step hz hx hn gw hg
  go_enter Try.func63, Try.ntmps63
  go_wp2_with fail
  go_loopw [7, 8, 9, 14] (fun v _ _ i wr => ∃ k : Nat, i = .int .i64 k ∧ k ≤ n ∧ v = .slice (some ⟨g, 0, none⟩) m mc ∧ Ints wr g (L k) ∧ (w.alloc (.cells #[.int .i64 R, .int .i64 C, .slice a n cap] 26)).grownBy wr (some g)) (fun _ _ _ i _ => n - (intOf i).toNat)
  case atStart => exact ⟨0, rfl, by omega, rfl, I0.out, World.grownBy.refl _ _⟩
  case round =>
    obtain ⟨k, rfl, hk, rfl, hi, hgr⟩ := hrel
    have I := Lib.hid hi
    have G := Lib.hid hgr
    have GW := Lib.hid (G0.out.trans hgr)
    clear hi hgr
    have R0 := Lib.hid (K0.out.keepOne G.out (by omega))
    by_cases hlt : k < n
    · have hC0 : 0 < C := by
        rcases Nat.eq_zero_or_pos C with e | e
        · have := HM.out; rw [e, Nat.mul_zero] at this; omega
        · exact e
      have c0 : ((C : Int) == 0) = false := by simp; omega
      obtain ⟨b, o, rfl, hcell⟩ := H.out k (by rw [HN.out]; exact hlt)
      have u1 := World.block_lt_of_cell? w _ hcell
      have hb : b ≠ g := HZ.out b o rfl (by omega)
      have hcell := GW.out.cell hcell (by simpa using hb)
      have d1 : (k : Int) / (C : Int) = ((k / C : Nat) : Int) := (Int.natCast_ediv k C).symm
      have d2 : (k : Int) % (C : Int) = ((k % C : Nat) : Int) := (Int.natCast_emod k C).symm
      have d3 : k / C ≤ k := Nat.div_le_self k C
      have d4 : k % C ≤ k := Nat.mod_le k C
      have d5 : 0 ≤ (k : Int) / (C : Int) := by rw [d1]; exact Int.natCast_nonneg _
      have d6 : (k : Int) / (C : Int) ≤ 600 := by rw [d1]; exact Int.ofNat_le.mpr (show k / C ≤ 600 by omega)
      have c1 : ¬ C = 0 := by omega
      have w1 : IntKind.i64.wrap ((k : Int) / (C : Int)) = (k : Int) / (C : Int) := IntWalk.i64_in _ (by omega)
      have e2 : Int.tmod (k : Int) (C : Int) = (k : Int) % (C : Int) := Int.tmod_eq_emod_of_nonneg (by omega)
      have e3 : Int.tdiv (k : Int) (C : Int) = (k : Int) / (C : Int) := Int.tdiv_eq_ediv_of_nonneg (by omega)
      clear d1 d2
      obtain ⟨z, hz⟩ : ∃ z, zs.getD k 0 = z := ⟨_, rfl⟩
      rw [hz] at hcell
      have Z := Lib.hid hz
      clear hz u1
      obtain ⟨r0, r1, r2, -, -, -⟩ := R0.out.all
      go_wp2_with fail
      go_still_tail 11, (by kernel_rfl)
      go_wp2_with fail
      rw [← Z.out]
      refine (ST.out k _ hlt (grown_drew_one GW.out) I.out.drew).mono ?_
      rintro e w2 ⟨rfl, hi2, hg2⟩
      have I2 := Lib.hid hi2
      have G2 := Lib.hid ((grown_drew_one G.out).trans hg2)
      clear hi2 hg2
      go_wp2_with fail
      go_roundw
      case rel => exact ⟨k + 1, by go_num, by omega, rfl, I2.out, G2.out⟩
      case measure => simp [intOf]; omega
    · obtain rfl : n = k := by omega
      go_wp2_with fail
      go_ret
      exact ⟨rfl, I.out, GW.out⟩
end Go.Proofs.Ytbdofgkcedpamaa
end
