/-
  Texts of this seat, joined: ZCDet2 · ZCDet3 · ZCDetL · ZCMatNew · ZCUptoMath · ZCMatS9 · ZCOpDet · ZCMulMath · ZCSameMath · ZCTurnMath · ZCRingMath · ZCLatU · ZCPrimL · ZCEchL · ZCHmF · ZCHmG · ZCHmH · ZCHmU · ZCRgT · ZCRgP · ZCNumMath · ZCNumAbs
-/
import Derived.IntWalk
import Derived.StillTailTactics
import Derived.Test.YtpelnfenfeoeeaaRows
import Derived.Test.YtpelnfenfeoeeaaProg
import Derived.OrdersHeld
import Derived.RegionTactic
import Derived.Deep.RegionHeld
import Derived.WalkKit
import Derived.BigQuiet
import Derived.Deep.QuietTactic
import Derived.Lib.Hide
import Derived.Test.YtpelnfenfeoeeaaPk46
import Derived.Test.YtpelnfenfeoeeaaPk47

section
/-
  Determinants: expansion along any row and column; turned over; of products; the adjugate. Plain mathematics: nothing of a program is used.
-/
namespace Go.Proofs.Ytpelnfenfeoeeaa
def ej (j c : Nat) : Int := if c = j then 1 else 0
def idX : Mx := fun r c => if r = c then 1 else 0
def trX (A : Mx) : Mx := fun r c => A c r
def mulX (n : Nat) (A B : Mx) : Mx := fun i j => sumN n fun k => A i k * B k j
theorem ej_self (j : Nat) : ej j j = 1 := if_pos rfl
theorem ej_ne {j c : Nat} (h : c ≠ j) : ej j c = 0 := if_neg h
theorem mnr_mnr (A : Mx) (i j : Nat) : mnr (mnr A (i + 1) 0) 0 j = mnr (mnr A 0 (j + 1)) i 0 := by
  funext r c
  show A (skp (i + 1) (skp 0 r)) (skp 0 (skp j c)) = A (skp 0 (skp i r)) (skp (j + 1) (skp 0 c))
  rw [skp_zero, skp_zero, skp_zero, skp_zero, skp_succ, skp_succ]
theorem det_unit (n : Nat) : ∀ (A : Mx) (j : Nat), j < n + 1 → det (n + 1) (stR A 0 (ej j)) = sg j * det n (mnr A 0 j) := by
  induction n with
  | zero =>
    intro A j hj
    obtain rfl : j = 0 := by omega
    rw [det_succ]
    show 0 + sg 0 * stR A 0 (ej 0) 0 0 * 1 = sg 0 * 1
    rw [stR_at, ej_self]
    omega
  | succ n ih =>
    intro A j hj
    rw [det_succ, sumN_first]
    cases j with
    | zero =>
      rw [mnr_stR_same, stR_at, ej_self, sumN_all_zero]
      · rw [Int.add_zero, Int.mul_one]
      · intro i hi
        rw [mnr_stR _ _ _ _ _ (by omega)]
        have e : unskp (i + 1) 0 = 0 := by unfold unskp; rw [if_pos (by omega)]
        have e2 : (fun c => ej 0 (skp 0 c)) = fun _ => 0 := by
          funext c
          exact ej_ne (skp_ne 0 c)
        rw [e, e2, lin_zero (det_lin (n + 1)) (by omega), Int.mul_zero]
    | succ j =>
      rw [stR_at, ej_ne (by omega), Int.mul_zero, Int.zero_mul, Int.zero_add, det_succ, sumN_mul_left]
      refine sumN_congr fun i hi => ?_
      rw [stR_ne _ _ _ _ _ (by omega), mnr_stR _ _ _ _ _ (by omega)]
      have e : unskp (i + 1) 0 = 0 := by unfold unskp; rw [if_pos (by omega)]
      have e2 : (fun c => ej (j + 1) (skp 0 c)) = ej j := by
        funext c
        rw [skp_zero]
        unfold ej
        by_cases h : c = j
        · rw [if_pos h, if_pos (by omega)]
        · rw [if_neg h, if_neg (by omega)]
      rw [e, e2, ih _ j (by omega), mnr_mnr, sg_succ, sg_succ]
      have e3 : mnr A 0 (j + 1) i 0 = A (i + 1) 0 := by
        show A (skp 0 i) (skp (j + 1) 0) = _
        rw [skp_zero, skp_first _ (by omega)]
      rw [e3]
      generalize det n (mnr (mnr A 0 (j + 1)) i 0) = d
      generalize A (i + 1) 0 = a
      generalize sg i = s
      generalize sg j = t
      grind
theorem row_sum (n : Nat) (v : Nat → Int) (c : Nat) (hc : c < n) : v c = sumN n fun k => v k * ej k c := by
  rw [sumN_one (a := c) hc (fun k _ hk => by rw [ej_ne (Ne.symm hk), Int.mul_zero]), ej_self, Int.mul_one]
theorem row_split {n r : Nat} {f : Mx → Int} (hl : Lin n f) (ho : Loc n f) (hr : r < n) (A : Mx) : f A = sumN n fun j => A r j * f (stR A r (ej j)) := by
  rw [← lin_sum hl hr A n (A r) ej]
  refine ho _ _ fun i c hi hc => ?_
  unfold stR
  by_cases h : i = r
  · rw [if_pos h, h]
    exact row_sum n (A r) c hc
  · rw [if_neg h]
theorem det_row (n : Nat) (A : Mx) : det (n + 1) A = sumN (n + 1) fun j => sg j * A 0 j * det n (mnr A 0 j) := by
  rw [row_split (det_lin (n + 1)) (det_loc (n + 1)) (r := 0) (by omega)]
  refine sumN_congr fun j hj => ?_
  rw [det_unit n A j hj]
  generalize det n (mnr A 0 j) = d
  generalize sg j = s
  grind
theorem mnr_trX (A : Mx) (i j : Nat) : mnr (trX A) i j = trX (mnr A j i) := rfl
theorem det_tr (n : Nat) : ∀ A : Mx, det n (trX A) = det n A := by
  induction n with
  | zero => intro A; rfl
  | succ n ih =>
    intro A
    rw [det_succ, det_row]
    refine sumN_congr fun i _ => ?_
    rw [mnr_trX, ih]
    rfl
theorem det_id (n : Nat) : det n idX = 1 := by
  induction n with
  | zero => rfl
  | succ n ih =>
    rw [det_succ, sumN_one (a := 0) (by omega)]
    · have e : mnr idX 0 0 = idX := by
        funext r c
        show (if skp 0 r = skp 0 c then (1 : Int) else 0) = if r = c then 1 else 0
        rw [skp_zero, skp_zero]
        by_cases h : r = c
        · rw [if_pos h, if_pos (by omega)]
        · rw [if_neg h, if_neg (by omega)]
      rw [e, ih]; rfl
    · intro i _ hi
      have : idX i 0 = 0 := if_neg hi
      rw [this, Int.mul_zero, Int.zero_mul]
def mvX (i : Nat) (A : Mx) : Mx := fun r c => if r = 0 then A i c else A (skp i (r - 1)) c
theorem det_mv (n : Nat) (A : Mx) (i : Nat) (hi : i < n + 1) : det (n + 1) (mvX i A) = sg i * det (n + 1) A := by
  induction i with
  | zero =>
    rw [sg_zero, Int.one_mul]
    refine det_congr fun r c _ _ => ?_
    unfold mvX
    by_cases h : r = 0
    · rw [if_pos h, h]
    · rw [if_neg h, skp_zero, show r - 1 + 1 = r by omega]
  | succ i ih =>
    have e : det (n + 1) (mvX (i + 1) A) = det (n + 1) (swR (mvX i A) 0 (i + 1)) := by
      refine det_congr fun r c _ _ => ?_
      unfold swR mvX
      by_cases h : r = 0
      · rw [if_pos h, if_pos h, if_neg (by omega)]
        have : skp i (i + 1 - 1) = i + 1 := by unfold skp; rw [if_neg (by omega)]; omega
        rw [this]
      · rw [if_neg h, if_neg h]
        by_cases h2 : r = i + 1
        · rw [if_pos h2, if_pos rfl]
          have : skp (i + 1) (r - 1) = i := by unfold skp; rw [if_pos (by omega)]; omega
          rw [this]
        · rw [if_neg h2, if_neg h]
          have : skp (i + 1) (r - 1) = skp i (r - 1) := by
            unfold skp
            by_cases h3 : r - 1 < i
            · rw [if_pos h3, if_pos (by omega)]
            · rw [if_neg h3, if_neg (by omega)]
          rw [this]
    rw [e, alt_swap (det_lin _) (det_alt _) (by omega) (by omega) hi, ih (by omega), sg_succ, Int.neg_mul]
theorem det_row_at (n : Nat) (A : Mx) (i : Nat) (hi : i < n + 1) : det (n + 1) A = sumN (n + 1) fun j => sg (i + j) * A i j * det n (mnr A i j) := by
  have h := det_mv n A i hi
  rw [det_row] at h
  have h2 : sg i * (sg i * det (n + 1) A) = det (n + 1) A := by rw [← Int.mul_assoc, sg_sq, Int.one_mul]
  rw [← h2, ← h, sumN_mul_left]
  refine sumN_congr fun j _ => ?_
  have e : mnr (mvX i A) 0 j = mnr A i j := by
    funext r c
    show mvX i A (skp 0 r) (skp j c) = A (skp i r) (skp j c)
    rw [skp_zero]
    show (if r + 1 = 0 then _ else A (skp i (r + 1 - 1)) (skp j c)) = _
    rw [if_neg (by omega), Nat.add_sub_cancel]
  have e2 : mvX i A 0 j = A i j := if_pos rfl
  rw [e, e2, sg_add]
  grind
theorem det_row_other (n : Nat) (A : Mx) (i k : Nat) (hi : i < n + 1) (hk : k < n + 1) (hne : i ≠ k) : (sumN (n + 1) fun j => sg (k + j) * A i j * det n (mnr A k j)) = 0 := by
  have h := det_row_at n (stR A k (A i)) k hk
  rw [alt_at (det_alt _) hne hi hk _ (fun c _ => by rw [stR_at, stR_ne _ _ _ _ _ hne])] at h
  rw [h]
  refine sumN_congr fun j _ => ?_
  rw [stR_at, mnr_stR_same]
theorem det_col_at (n : Nat) (A : Mx) (j : Nat) (hj : j < n + 1) : det (n + 1) A = sumN (n + 1) fun i => sg (i + j) * A i j * det n (mnr A i j) := by
  rw [← det_tr, det_row_at n (trX A) j hj]
  refine sumN_congr fun i _ => ?_
  rw [mnr_trX, det_tr, Nat.add_comm j i]
  rfl
theorem det_col_other (n : Nat) (A : Mx) (j k : Nat) (hj : j < n + 1) (hk : k < n + 1) (hne : j ≠ k) : (sumN (n + 1) fun i => sg (i + k) * A i j * det n (mnr A i k)) = 0 := by
  rw [← det_row_other n (trX A) j k hj hk hne]
  refine sumN_congr fun i _ => ?_
  rw [mnr_trX, det_tr, Nat.add_comm k i]
  rfl
def adjX (n : Nat) (A : Mx) : Mx := fun j i => sg (i + j) * det n (mnr A i j)
theorem adj_mul (n : Nat) (A : Mx) (i k : Nat) (hi : i < n + 1) (hk : k < n + 1) : mulX (n + 1) (adjX n A) A i k = if i = k then det (n + 1) A else 0 := by
  show (sumN (n + 1) fun j => sg (j + i) * det n (mnr A j i) * A j k) = _
  have e : (sumN (n + 1) fun j => sg (j + i) * det n (mnr A j i) * A j k) = sumN (n + 1) fun j => sg (j + i) * A j k * det n (mnr A j i) := sumN_congr fun j _ => by grind
  rw [e]
  by_cases h : i = k
  · subst h; rw [if_pos rfl]; exact (det_col_at n A i hi).symm
  · rw [if_neg h]; exact det_col_other n A k i hk hi (Ne.symm h)
end Go.Proofs.Ytpelnfenfeoeeaa
end

section
/-
  Elimination without fractions: the cells that are made are bordered minors, so each division is exact. Plain mathematics: nothing of a program is used.
-/
namespace Go.Proofs.Ytpelnfenfeoeeaa
def bdX (t i j : Nat) (A : Mx) : Mx := fun r c => A (if r < t then r else i) (if c < t then c else j)
def bm (t i j : Nat) (A : Mx) : Int := det (t + 1) (bdX t i j A)
end Go.Proofs.Ytpelnfenfeoeeaa
end

section
/-
  Plain mathematics of chapter 6: the determinant by expansion along the first row, with a mark where one that is met is beyond the limit. Nothing of a program is used.
-/
namespace Go.Proofs.Ytpelnfenfeoeeaa
def mxL (n : Nat) (xs : List Int) : Mx := fun r c => xs.getD (r * n + c) 0
theorem mxL_tab (n : Nat) (f : Nat → Nat → Int) : EqX n (mxL n (tab n n f)) f := fun _ _ hr hc => tab_at n n f hr hc
def detAcc (g f : Nat → Int) : Nat → Option Int
  | 0 => some 0
  | j + 1 => match detAcc g f j with
    | none => none
    | some s => if g j = 0 then some s else if f j = badN then none else some (s + sg j * g j * f j)
theorem detAcc_skip {g f : Nat → Int} {j : Nat} {s : Int} (h : detAcc g f j = some s) (h0 : g j = 0) : detAcc g f (j + 1) = some s := by
  show (match detAcc g f j with | none => _ | some s => _) = _
  rw [h]
  exact if_pos h0
theorem detAcc_bad {g f : Nat → Int} {j : Nat} {s : Int} (h : detAcc g f j = some s) (h0 : g j ≠ 0) (h1 : f j = badN) : detAcc g f (j + 1) = none := by
  show (match detAcc g f j with | none => _ | some s => _) = _
  rw [h]
  show (if g j = 0 then _ else _) = _
  rw [if_neg h0, if_pos h1]
theorem detAcc_add {g f : Nat → Int} {j : Nat} {s : Int} (h : detAcc g f j = some s) (h0 : g j ≠ 0) (h1 : f j ≠ badN) : detAcc g f (j + 1) = some (s + sg j * g j * f j) := by
  show (match detAcc g f j with | none => _ | some s => _) = _
  rw [h]
  show (if g j = 0 then _ else _) = _
  rw [if_neg h0, if_neg h1]
theorem detAcc_none_succ {g f : Nat → Int} {j : Nat} (h : detAcc g f j = none) : detAcc g f (j + 1) = none := by
  show (match detAcc g f j with | none => _ | some s => _) = _
  rw [h]
theorem detAcc_none {g f : Nat → Int} {j k : Nat} (h : detAcc g f j = none) (hk : j ≤ k) : detAcc g f k = none := by
  induction k with
  | zero => obtain rfl : j = 0 := by omega
            exact h
  | succ k ih =>
    rcases Nat.lt_or_ge k j with h1 | h1
    · obtain rfl : j = k + 1 := by omega
      exact h
    · exact detAcc_none_succ (ih h1)
theorem detAcc_sum {g f : Nat → Int} {k : Nat} : ∀ {s : Int}, detAcc g f k = some s → s = sumN k fun j => sg j * g j * f j := by
  induction k with
  | zero => intro s h; exact (Option.some.inj h).symm
  | succ k ih =>
    intro s h
    cases h1 : detAcc g f k with
    | none => rw [detAcc_none_succ h1] at h; cases h
    | some s1 =>
      show s = sumN k _ + sg k * g k * f k
      by_cases h0 : g k = 0
      · rw [detAcc_skip h1 h0] at h
        rw [← Option.some.inj h, ih h1, h0, Int.mul_zero, Int.zero_mul, Int.add_zero]
      · by_cases h2 : f k = badN
        · rw [detAcc_bad h1 h0 h2] at h; cases h
        · rw [detAcc_add h1 h0 h2] at h
          rw [← Option.some.inj h, ih h1]
theorem detAcc_met {g f : Nat → Int} {k : Nat} : ∀ {s : Int}, detAcc g f k = some s → ∀ j, j < k → g j ≠ 0 → f j ≠ badN := by
  induction k with
  | zero => intro s _ j hj; omega
  | succ k ih =>
    intro s h j hj h0 h2
    cases h1 : detAcc g f k with
    | none => rw [detAcc_none_succ h1] at h; cases h
    | some s1 =>
      rcases Nat.lt_or_ge j k with h3 | h3
      · exact ih h1 j h3 h0 h2
      · obtain rfl : j = k := by omega
        rw [detAcc_bad h1 h0 h2] at h; cases h
theorem sg_or (k : Nat) : sg k = 1 ∨ sg k = -1 := by unfold sg; split <;> simp
theorem sg_num {k : Nat} {x : Int} (h : NumP x) : NumP (sg k * x) := by
  unfold NumP at *
  rcases sg_or k with e | e <;> rw [e] <;> omega
theorem detAcc_bd {g f : Nat → Int} {k : Nat} (hg : ∀ j, j < k → NumP (g j)) (hf : ∀ j, j < k → f j = badN ∨ NumP (f j)) : ∀ {s : Int}, detAcc g f k = some s → -((k : Int) * 160000000000000000) ≤ s ∧ s ≤ (k : Int) * 160000000000000000 := by
  induction k with
  | zero => intro s h; rw [← Option.some.inj h]; omega
  | succ k ih =>
    intro s h
    cases h1 : detAcc g f k with
    | none => rw [detAcc_none_succ h1] at h; cases h
    | some s1 =>
      have b := ih (fun j hj => hg j (by omega)) (fun j hj => hf j (by omega)) h1
      by_cases h0 : g k = 0
      · rw [detAcc_skip h1 h0] at h
        rw [← Option.some.inj h]; omega
      · by_cases h2 : f k = badN
        · rw [detAcc_bad h1 h0 h2] at h; cases h
        · rw [detAcc_add h1 h0 h2] at h
          have m := mul_num _ _ (sg_num (k := k) (hg k (by omega))) ((hf k (by omega)).resolve_left h2)
          rw [← Option.some.inj h]; omega
def detB : Nat → List Int → Int
  | 0, _ => 1
  | n + 1, xs => match detAcc (fun j => xs.getD j 0) (fun j => detB n (woL (n + 1) (0 : Int) (j : Int) xs ((n + 1) * (n + 1)))) (n + 1) with
    | none => badN
    | some s => fitB s
def mnB (n : Nat) (xs : List Int) (j : Nat) : Int := detB n (woL (n + 1) (0 : Int) (j : Int) xs ((n + 1) * (n + 1)))
theorem detB_none {n : Nat} {xs : List Int} (h : detAcc (fun j => xs.getD j 0) (mnB n xs) (n + 1) = none) : detB (n + 1) xs = badN := by
  show (match detAcc (fun j => xs.getD j 0) (mnB n xs) (n + 1) with | none => badN | some s => fitB s) = _
  rw [h]
theorem detB_some {n : Nat} {xs : List Int} {s : Int} (h : detAcc (fun j => xs.getD j 0) (mnB n xs) (n + 1) = some s) : detB (n + 1) xs = fitB s := by
  show (match detAcc (fun j => xs.getD j 0) (mnB n xs) (n + 1) with | none => badN | some s => fitB s) = _
  rw [h]
theorem fitB_or (z : Int) : fitB z = badN ∨ NumP (fitB z) := by
  unfold fitB
  by_cases h : NumP z
  · rw [if_pos h]; exact .inr h
  · rw [if_neg h]; exact .inl rfl
theorem detB_or (n : Nat) (xs : List Int) : detB n xs = badN ∨ NumP (detB n xs) := by
  cases n with
  | zero => exact .inr (by show NumP 1; decide)
  | succ n =>
    cases h : detAcc (fun j => xs.getD j 0) (mnB n xs) (n + 1) with
    | none => exact .inl (detB_none h)
    | some s => rw [detB_some h]; exact fitB_or s
theorem mxL_woL {n : Nat} {xs : List Int} {i j : Nat} (hi : i < n + 1) (hj : j < n + 1) : EqX n (mxL n (woL (n + 1) (i : Int) (j : Int) xs ((n + 1) * (n + 1)))) (mnr (mxL (n + 1) xs) i j) := by
  rw [woL_tab n i j xs hi hj]
  exact mxL_tab n _
theorem woL_sq {n : Nat} {xs : List Int} {i j : Nat} (hi : i < n + 1) (hj : j < n + 1) : (woL (n + 1) (i : Int) (j : Int) xs ((n + 1) * (n + 1))).length = n * n := by rw [woL_tab n i j xs hi hj, tab_length]
theorem detB_det (n : Nat) : ∀ xs : List Int, detB n xs ≠ badN → detB n xs = det n (mxL n xs) := by
  induction n with
  | zero => intro xs _; rfl
  | succ n ih =>
    intro xs hb
    cases h : detAcc (fun j => xs.getD j 0) (mnB n xs) (n + 1) with
    | none => exact absurd (detB_none h) hb
    | some s =>
      rw [detB_some h] at hb ⊢
      have e : fitB s = s := by
        unfold fitB at hb ⊢
        by_cases hs : NumP s
        · rw [if_pos hs]
        · rw [if_neg hs] at hb; exact absurd rfl hb
      rw [e, detAcc_sum h, det_row]
      refine sumN_congr fun j hj => ?_
      have e0 : mxL (n + 1) xs 0 j = xs.getD j 0 := by unfold mxL; rw [Nat.zero_mul, Nat.zero_add]
      rw [e0]
      by_cases h0 : xs.getD j 0 = 0
      · simp only [h0, Int.mul_zero, Int.zero_mul]
      · have hm := detAcc_met h j hj h0
        have := ih _ hm
        show sg j * xs.getD j 0 * detB n _ = _
        rw [this, det_congr (show EqX n (mxL n (woL (n + 1) (0 : Int) (j : Int) xs ((n + 1) * (n + 1)))) (mnr (mxL (n + 1) xs) 0 j) from mxL_woL (i := 0) (by omega) hj)]
theorem woL_nums {n : Nat} {xs : List Int} {i j : Nat} (hi : i < n + 1) (hj : j < n + 1) (h : nums xs = true) : nums (woL (n + 1) (i : Int) (j : Int) xs ((n + 1) * (n + 1))) = true := by
  rw [woL_tab n i j xs hi hj]
  refine nums_true fun p hp => ?_
  rw [tab_length] at hp
  have hn : 0 < n := by
    rcases Nat.eq_zero_or_pos n with e | e
    · subst e; omega
    · exact e
  have e : p = p / n * n + p % n := by rw [Nat.mul_comm]; exact (Nat.div_add_mod p n).symm
  rw [e, tab_at n n _ (Nat.div_lt_of_lt_mul hp) (Nat.mod_lt p hn)]
  rcases Nat.lt_or_ge (skp i (p / n) * (n + 1) + skp j (p % n)) xs.length with h1 | h1
  · exact nums_at h h1
  · rw [List.getD, List.getElem?_eq_none h1]; exact ⟨by decide, by decide⟩
def detM (n : Nat) (xs : List Int) : Int × Bool := if detB n xs = badN then (0, false) else (detB n xs, true)
end Go.Proofs.Ytpelnfenfeoeeaa
end

section
/-
  Chapter 3, in the model: a matrix of zeros.
-/
namespace Go.Proofs.Ytpelnfenfeoeeaa
open Go.RowKit
theorem sNew (R C : Nat) (w : World) (hR : R ≤ 4096) (hC : C ≤ 4096) :
    Calls Try.prog 106 #[.int .i64 R, .int .i64 C] w (NewMat R C (List.replicate (R * C) 0) w) := by
  have hm : R * C ≤ 4096 * 4096 := Nat.mul_le_mul hR hC
  have hmk := makeProd R C (by omega)
  have hp1 : (0 : Int) ≤ (R : Int) * (C : Int) := by rw [← Int.natCast_mul]; omega
  have hp2 : (R : Int) * (C : Int) ≤ 16777216 := by rw [← Int.natCast_mul]; omega
  go_enter Try.func106, Try.ntmps106
  go_wp2_with fail
  refine bodyPost_ret (v := .agg #[.int .i64 R, .int .i64 C, .slice (some ⟨w.heap.size + 1, 0, none⟩) (R * C) (R * C)]) (by simp [results, Try.results106, go_sem]) rfl ⟨w.heap.size + 1, by simp, by omega, ?_, ?_⟩
  · exact Ints.made _ (by simp)
  · exact ((Below.refl _ _).alloc (Nat.le_refl _) _).alloc (by simp) _
end Go.Proofs.Ytpelnfenfeoeeaa
end

section
/-
  Plain mathematics: a row that is filled from the left.
-/
namespace Go.Proofs.Ytpelnfenfeoeeaa
end Go.Proofs.Ytpelnfenfeoeeaa
end

section
/-
  Chapter 3, in the model: IdentityMatrix.
-/
namespace Go.Proofs.Ytpelnfenfeoeeaa
open Go.RowKit
def idL (n k : Nat) : List Int := (List.range (n * n)).map fun j => if j % (n + 1) = 0 ∧ j < k * (n + 1) then 1 else 0
theorem idL_length (n k : Nat) : (idL n k).length = n * n := by simp [idL]
theorem idL_zero (n : Nat) : idL n 0 = List.replicate (n * n) 0 := by
  apply List.ext_getElem (by simp [idL])
  intro i h1 h2
  simp [idL]
theorem idL_at (n k : Nat) : (idL n k).getD (k * n + k) 0 = 0 := by
  have e : k * n + k = k * (n + 1) := (Nat.mul_succ k n).symm
  rw [e]
  unfold idL List.getD
  rcases Nat.lt_or_ge (k * (n + 1)) (n * n) with h | h
  · simp [h]
  · simp [h]
theorem idL_step (n k : Nat) : (idL n k).set (k * n + k) 1 = idL n (k + 1) := by
  have e : k * n + k = k * (n + 1) := (Nat.mul_succ k n).symm
  rw [e]
  apply List.ext_getElem (by simp [idL])
  intro i h1 h2
  have hi : i < n * n := by simpa [idL] using h2
  rw [List.getElem_set]
  by_cases hk : k * (n + 1) = i
  · rw [if_pos hk]
    have h3 : i % (n + 1) = 0 := by rw [← hk]; exact Nat.mul_mod_left _ _
    have h4 : i < (k + 1) * (n + 1) := by rw [← hk, Nat.succ_mul]; omega
    simp [idL, h3, h4]
  · rw [if_neg hk]
    have h5 : (i % (n + 1) = 0 ∧ i < k * (n + 1)) ↔ (i % (n + 1) = 0 ∧ i < (k + 1) * (n + 1)) := by
      constructor
      · rintro ⟨a, b⟩; exact ⟨a, by rw [Nat.succ_mul]; omega⟩
      · rintro ⟨a, b⟩
        refine ⟨a, ?_⟩
        obtain ⟨q, hq⟩ := Nat.dvd_of_mod_eq_zero a
        rw [Nat.mul_comm] at hq
        rw [hq] at b ⊢
        have := Nat.lt_of_mul_lt_mul_right b
        have hne : q ≠ k := by rintro rfl; exact hk hq.symm
        exact Nat.mul_lt_mul_of_pos_right (by omega) (by omega)
    simp only [idL, List.getElem_map, List.getElem_range, h5]
def idM (n : Int) : MR := if 0 ≤ n ∧ n ≤ 24 then ⟨true, n, n, idL n.toNat n.toNat⟩ else MR.no
set_option maxHeartbeats 1000000 in
theorem sIdent_t (n : Nat) (w : World) (hn : n ≤ 24) :
    Calls Try.prog 55 #[.int .i64 n] w (MatRes ⟨true, n, n, idL n n⟩ w) := by
  have hle : n * n ≤ 24 * 24 := Nat.mul_le_mul hn hn
  have B0 : ∀ o1, Below w.heap.size w (w.alloc o1) := fun o1 => (Below.refl _ _).alloc (Nat.le_refl _) _
  have BH := Lib.hid B0
  clear B0
  go_enter Try.func55, Try.ntmps55
  go_wp2_with fail
  refine (sIn_t n 0 24 _ (by omega) (by omega)).mono ?_
  rintro e w2 ⟨rfl, rfl⟩
  go_wp2_with fail
  have K2 : Hid (Blk3 (w.alloc (.cells #[.int .i64 0, .int .i64 0, .slice none 0 0] 26)) w.heap.size 26 (.int .i64 0) (.int .i64 0) (.slice none 0 0)) := Blk3.at_ _ _ _ _ rfl
  have B := Lib.hid (BH.out (.cells #[.int .i64 0, .int .i64 0, .slice none 0 0] 26))
  refine (sNew n n _ (by omega) (by omega)).mono ?_
  rintro e w3 ⟨g, rfl, hg, hi, hb⟩
  have l2 := Nat.lt_of_lt_of_le K2.out.lt hg
  clear hg
  obtain ⟨N, hN⟩ : ∃ N, n * n = N := ⟨_, rfl⟩
  have HN := Lib.hid hN
  rw [hN] at hi hle ⊢
  clear hN
  have K2 := Lib.hid (K2.out.keep hb K2.out.lt)
  have B := Lib.hid (B.out.trans (hb.mono B.out.size))
  have I := Lib.hid hi
  have gl := hi.lt
  clear hb hi
  simp only [List.length_replicate]
  have BA : Hid (Below w.heap.size w (w3.alloc (.cells #[.int .i64 n, .int .i64 n, .slice (some ⟨g, 0, none⟩) N N] 26))) := B.out.alloc B.out.size _
  have K2 := Lib.hid (K2.out.old (.cells #[.int .i64 n, .int .i64 n, .slice (some ⟨g, 0, none⟩) N N] 26))
  have K6 : Hid (Blk3 (w3.alloc (.cells #[.int .i64 n, .int .i64 n, .slice (some ⟨g, 0, none⟩) N N] 26)) w3.heap.size 26 (.int .i64 n) (.int .i64 n) (.slice (some ⟨g, 0, none⟩) N N)) := Blk3.at_ _ _ _ _ rfl
  have I := Lib.hid (I.out.old (.cells #[.int .i64 n, .int .i64 n, .slice (some ⟨g, 0, none⟩) N N] 26))
  go_wp2_with fail
  go_loopw [5] (fun i wr => ∃ k : Nat, i = .int .i64 k ∧ k ≤ n ∧ Ints wr g (idL n k) ∧ (w3.alloc (.cells #[.int .i64 n, .int .i64 n, .slice (some ⟨g, 0, none⟩) N N] 26)).grownBy wr (some g)) (fun i _ => n - (intOf i).toNat)
  case atStart => exact ⟨0, rfl, by omega, by rw [idL_zero, HN.out]; exact I.out, World.grownBy.refl _ _⟩
  case round =>
    obtain ⟨k, rfl, hk, hi, hgr⟩ := hrel
    have I := Lib.hid hi
    have G := Lib.hid hgr
    clear hi hgr
    have R2 := Lib.hid (K2.out.keepOne G.out (by omega))
    have R6 := Lib.hid (K6.out.keepOne G.out (by omega))
    obtain ⟨r0, r1, r2, -, -, -⟩ := R6.out.all
    by_cases hlt : k < n
    · have i1 : k * n + k < N := by rw [← HN.out]; exact idx_lt hlt hlt
      have hold := I.out.cell (i := k * n + k) (by rw [idL_length, HN.out]; exact i1)
      rw [idL_at] at hold
      have hfr := I.out.free (k * n + k)
      have c1 : (k : Int) * (n : Int) = ((k * n : Nat) : Int) := (Int.natCast_mul _ _).symm
      have d1 : 0 ≤ (k : Int) * (n : Int) ∧ (k : Int) * (n : Int) ≤ 600 := by rw [c1]; omega
      have e1 : 0 ≤ (k : Int) * (n : Int) + (k : Int) := by omega
      have e2 : (k : Int) * (n : Int) + (k : Int) < (N : Int) := by rw [c1]; omega
      have e3 : ((k : Int) * (n : Int) + (k : Int)).toNat = k * n + k := by rw [c1]; omega
      obtain ⟨d11, d12⟩ := d1
      have v1 : IntKind.i64.wrap ((k : Int) * (n : Int)) = (k : Int) * (n : Int) := IntWalk.i64_in _ (by omega)
      have v2 : IntKind.i64.wrap ((k : Int) * (n : Int) + (k : Int)) = (k : Int) * (n : Int) + (k : Int) := IntWalk.i64_in _ (by omega)
      clear c1
      go_wp2_with fail
      go_roundw
      case rel =>
        refine ⟨k + 1, by go_num, by omega, ?_, ?_⟩
        · rw [← idL_step]
          first | exact I.out.set (k * n + k) _ | exact I.out.drew.set (k * n + k) _
        · first | exact grown_set_one G.out rfl _ | exact grown_drew_one (grown_set_one G.out rfl _)
      case measure => simp [intOf]; omega
    · have hkn : k = n := by omega
      subst hkn
      have BW := Lib.hid (BA.out.trans (below_of_one G.out (by omega) BA.out.size))
      obtain ⟨s0, s1, s2, t0, t1, t2⟩ := R2.out.all
      go_wp2_with fail
      obtain ⟨E0, E1, E2, -, -, -⟩ := (((R2.out.set0 (.int .i64 k)).set1 (.int .i64 k)).set2 (.slice (some ⟨g, 0, none⟩) N N)).all
      refine bodyPost_ret (v := .tuple #[.agg #[.int .i64 k, .int .i64 k, .slice (some ⟨g, 0, none⟩) N N], .bool true]) (by simp [results, Try.results55, go_sem, E0, E1, E2]) rfl ⟨_, rfl, ?_, ?_⟩
      · refine .inr ⟨g, N, by rw [idL_length, HN.out], by omega, ?_, by simp [idL_length, HN.out], by simp [idL_length, HN.out]; omega⟩
        exact ((I.out.far (by show g ≠ w.heap.size; omega) _).far (by show g ≠ w.heap.size; omega) _).far (by show g ≠ w.heap.size; omega) _
      · exact ((BW.out.setCell (Nat.le_refl _) _).setCell (Nat.le_refl _) _).setCell (Nat.le_refl _) _
theorem sIdent (n : Int) (w : World) : Calls Try.prog 55 #[.int .i64 n] w (MatRes (idM n) w) := by
  by_cases h : 0 ≤ n ∧ n ≤ 24
  · obtain ⟨k, rfl⟩ := Int.eq_ofNat_of_zero_le h.1
    have E : idM k = ⟨true, k, k, idL k k⟩ := by unfold idM; rw [if_pos h]; rfl
    rw [E]
    exact sIdent_t k w (by omega)
  · have E : Hid (idM n = MR.no) := by show idM n = _; unfold idM; rw [if_neg h]
    have h' : n < 0 ∨ 24 < n := by omega
    clear h
    have B0 : ∀ o1, Below w.heap.size w (w.alloc o1) := fun o1 => (Below.refl _ _).alloc (Nat.le_refl _) _
    have BH := Lib.hid B0
    clear B0
    go_enter Try.func55, Try.ntmps55
    go_wp2_with fail
    refine (sIn_f n 0 24 _ h').mono ?_
    rintro e w2 ⟨rfl, rfl⟩
    have K2 : Hid (Blk3 (w.alloc (.cells #[.int .i64 0, .int .i64 0, .slice none 0 0] 26)) w.heap.size 26 (.int .i64 0) (.int .i64 0) (.slice none 0 0)) := Blk3.at_ _ _ _ _ rfl
    have B := Lib.hid (BH.out (.cells #[.int .i64 0, .int .i64 0, .slice none 0 0] 26))
    obtain ⟨s0, s1, s2, t0, t1, t2⟩ := K2.out.all
    go_wp2_with fail
    rw [E.out]
    exact bodyPost_ret (v := .tuple #[.agg #[.int .i64 0, .int .i64 0, .slice none 0 0], .bool false]) (by simp [results, Try.results55, go_sem]) rfl ⟨_, rfl, .inl ⟨rfl, rfl⟩, B.out⟩
end Go.Proofs.Ytpelnfenfeoeeaa
end

section
/-
  Plain mathematics of chapters 5 and 6: what operations on rows do to the determinant. Nothing of a program is used.
-/
namespace Go.Proofs.Ytpelnfenfeoeeaa
theorem opL_getD {k : Int} {I J : Nat} {t : Int} {C : Nat} {xs : List Int} {p : Nat} (hp : p < xs.length) : (opL k I J t C xs).getD p 0 = opAt k I J t C xs p := by
  unfold opL
  simp only [List.getD, List.getElem?_map, List.getElem?_range hp, Option.map_some, Option.getD_some]
theorem opL_raw {k : Int} {I J : Nat} {t : Int} {R C : Nat} {xs : List Int} (hk : k = 0 ∨ k = 1 ∨ k = 2) (hl : xs.length = R * C) (hx : nums xs = true) (hI : I < R) (ht : NumP t) (hn : nums (opL k I J t C xs) = true) (p : Nat) (hp : p < R * C) :
    (opL k I J t C xs).getD p 0 = rwAt k I J t C xs p := by
  have hpr : ∀ q, q < C → k = 2 → NumP (xs.getD (J * C + q) 0 * t) := by
    intro q hq h2
    subst h2
    by_cases hb : NumP (xs.getD (J * C + q) 0 * t)
    · exact hb
    · exfalso
      have hi : I * C + q < xs.length := by rw [hl]; exact idx_lt hI hq
      have e : (opL 2 I J t C xs).getD (I * C + q) 0 = badN := by
        rw [opL_getD hi, opAt_two _ _ _ _ _ hq, mulB_num (nums_def hx _) ht, fitB_bad hb, addB_bad]
      have := nums_at hn (j := I * C + q) (by rw [opL_length]; exact hi)
      rw [e] at this
      exact bad_not this
  have hC : 0 < C := by
    rcases Nat.eq_zero_or_pos C with e | e
    · subst e; omega
    · exact e
  have hp' : p < xs.length := by rw [hl]; exact hp
  have h1 := nums_at hn (j := p) (by rw [opL_length]; exact hp')
  rw [opL_getD hp', opAt_raw k I J t C xs p hk hx ht (fun h2 _ => hpr _ (Nat.mod_lt p hC) h2)] at h1 ⊢
  by_cases hz : NumP (rwAt k I J t C xs p)
  · exact fitB_num hz
  · rw [fitB_bad hz] at h1; exact absurd h1 bad_not
def opX (k : Int) (I J : Nat) (t : Int) (A : Mx) : Mx := fun r c =>
  if k = 0 then (if r = I then A J c else if r = J then A I c else A r c)
  else if k = 1 then (if r = I then - A r c else A r c)
  else (if r = I then A r c + A J c * t else A r c)
theorem rwAt_mx {k : Int} {I J : Nat} {t : Int} {C : Nat} {xs : List Int} {r c : Nat} (hc : c < C) : rwAt k I J t C xs (r * C + c) = opX k I J t (fun r c => xs.getD (r * C + c) 0) r c := by
  unfold rwAt opX
  rw [idx_div hc, idx_mod hc]
theorem opX_mxL {k : Int} {I J : Nat} {t : Int} {n : Nat} {xs : List Int} (hk : k = 0 ∨ k = 1 ∨ k = 2) (hl : xs.length = n * n) (hx : nums xs = true) (hI : I < n) (ht : NumP t) (hn : nums (opL k I J t n xs) = true) :
    EqX n (mxL n (opL k I J t n xs)) (opX k I J t (mxL n xs)) := fun r c hr hc => by
  show (opL k I J t n xs).getD (r * n + c) 0 = _
  rw [opL_raw hk hl hx hI ht hn _ (idx_lt hr hc), rwAt_mx hc]
  rfl
def opSg (k : Int) : Int := if k = 2 then 1 else -1
theorem opX_det {k : Int} {I J : Nat} {t : Int} {n : Nat} (A : Mx) (hk : k = 0 ∨ k = 1 ∨ k = 2) (hI : I < n) (hJ : J < n) (hIJ : k ≠ 1 → I ≠ J) : det n (opX k I J t A) = opSg k * det n A := by
  rcases hk with rfl | rfl | rfl
  · have e : opX 0 I J t A = swR A I J := by
      funext r c
      unfold opX swR
      rw [if_pos rfl]
    rw [e, alt_swap (det_lin n) (det_alt n) (hIJ (by decide)) hI hJ A]
    unfold opSg
    rw [if_neg (by decide)]; omega
  · have e : opX 1 I J t A = stR A I (fun c => (-1) * A I c) := by
      funext r c
      unfold opX stR
      rw [if_neg (by decide), if_pos rfl]
      by_cases h : r = I
      · rw [if_pos h, if_pos h, h]
        show - A I c = (-1) * A I c
        omega
      · rw [if_neg h, if_neg h]
    rw [e, lin_scale (det_lin n) hI A (-1) (A I), stR_self]
    unfold opSg
    rw [if_neg (by decide)]
  · have e : opX 2 I J t A = stR A I (fun c => A I c + t * A J c) := by
      funext r c
      unfold opX stR
      rw [if_neg (by decide), if_neg (by decide)]
      by_cases h : r = I
      · rw [if_pos h, if_pos h, h, Int.mul_comm]
      · rw [if_neg h, if_neg h]
    rw [e, alt_add (det_lin n) (det_alt n) (hIJ (by decide)) hI hJ A t]
    unfold opSg
    rw [if_pos rfl, Int.one_mul]
theorem opM_det {k i j t : Int} {n : Nat} {xs : List Int} (h : (opM k i j t n n xs).ok = true) :
    ∃ ys : List Int, opM k i j t n n xs = ⟨true, n, n, ys⟩ ∧ xs.length = n * n ∧ nums xs = true ∧ ys.length = n * n ∧ nums ys = true ∧ det n (mxL n ys) = opSg k * det n (mxL n xs) := by
  unfold opM at h ⊢
  by_cases h1 : (isMat n n xs && isOp k i j t n) = true
  · rw [if_pos h1] at h ⊢
    simp only [Bool.and_eq_true] at h1
    obtain ⟨hm, ho⟩ := h1
    obtain ⟨-, -, hl, hx⟩ := isMat_says hm
    obtain ⟨hk, -, ⟨i1, i2⟩, ⟨j1, j2⟩, ht, -⟩ := isOp_says ho
    rw [← Int.natCast_mul] at hl
    have hl : xs.length = n * n := by omega
    obtain ⟨I, rfl⟩ := Int.eq_ofNat_of_zero_le i1
    obtain ⟨J, rfl⟩ := Int.eq_ofNat_of_zero_le j1
    have hIJ : k ≠ 1 → I ≠ J := fun h1 => by
      rcases hk with rfl | rfl | rfl
      · have := isOp_rows0 ho; omega
      · exact absurd rfl h1
      · have := isOp_rows2 ho; omega
    unfold MR.done at h ⊢
    by_cases h2 : isMat n n (opL k I J t n xs) = true
    · have hn := (isMat_says h2).2.2.2
      have e : (n : Int).toNat = n := rfl
      refine ⟨opL k I J t n xs, if_pos h2, hl, hx, by rw [opL_length, hl], hn, ?_⟩
      rw [det_congr (opX_mxL hk hl hx (by omega) ht hn)]
      exact opX_det _ hk (by omega) (by omega) hIJ
    · rw [show (if isMat n n (opL k (I : Int).toNat (J : Int).toNat t (n : Int).toNat xs) = true then _ else MR.no) = MR.no from if_neg h2] at h
      exact absurd h (by simp [MR.no])
  · rw [if_neg h1] at h; exact absurd h (by simp [MR.no])
theorem mxL_idL (n : Nat) : EqX n (mxL n (idL n n)) idX := fun r c hr hc => by
  have hp : r * n + c < n * n := idx_lt hr hc
  have e : (idL n n).getD (r * n + c) 0 = if (r * n + c) % (n + 1) = 0 ∧ r * n + c < n * (n + 1) then 1 else 0 := by
    unfold idL
    simp only [List.getD, List.getElem?_map, List.getElem?_range hp, Option.map_some, Option.getD_some]
  show (idL n n).getD (r * n + c) 0 = _
  rw [e]
  have hlt : r * n + c < n * (n + 1) := by rw [Nat.mul_add, Nat.mul_one]; omega
  unfold idX
  rcases Nat.lt_trichotomy r c with h | h | h
  · have e2 : r * n + c = r * (n + 1) + (c - r) := by rw [Nat.mul_add, Nat.mul_one]; omega
    rw [if_neg (fun h' => by rw [e2, idx_mod (by omega)] at h'; omega), if_neg (by omega)]
  · subst h
    have e2 : r * n + r = r * (n + 1) + 0 := by rw [Nat.mul_add, Nat.mul_one]; omega
    rw [if_pos ⟨by rw [e2, idx_mod (by omega)], hlt⟩, if_pos rfl]
  · obtain ⟨p, rfl⟩ : ∃ p, r = p + 1 := ⟨r - 1, by omega⟩
    have e2 : (p + 1) * n + c = p * (n + 1) + (n + c - p) := by rw [Nat.mul_add, Nat.mul_one, Nat.add_mul, Nat.one_mul]; omega
    rw [if_neg (fun h' => by rw [e2, idx_mod (by omega)] at h'; omega), if_neg (by omega)]
theorem idL_nums (n : Nat) : nums (idL n n) = true := by
  refine nums_true fun p hp => ?_
  rw [idL_length] at hp
  unfold idL
  simp only [List.getD, List.getElem?_map, List.getElem?_range hp, Option.map_some, Option.getD_some]
  split
  · exact ⟨by decide, by decide⟩
  · exact ⟨by decide, by decide⟩
theorem idL_det (n : Nat) : det n (mxL n (idL n n)) = 1 := by rw [det_congr (mxL_idL n), det_id]
end Go.Proofs.Ytpelnfenfeoeeaa
end

section
/-
  Plain mathematics of chapter 3: what a product and a matrix turned over are. Nothing of a program is used.
-/
namespace Go.Proofs.Ytpelnfenfeoeeaa
open Go.RowKit
def dot (K C : Nat) (xs ys : List Int) (i j : Nat) : Nat → Int
  | 0 => 0
  | k + 1 => dot K C xs ys i j k + xs.getD (i * K + k) 0 * ys.getD (k * C + j) 0
def mulL (R K C : Nat) (xs ys : List Int) : List Int := tab R C fun i j => dot K C xs ys i j K
theorem dot_bd {K C : Nat} {xs ys : List Int} {i j : Nat} (hx : ∀ p : Nat, p < K → NumP (xs.getD (i * K + p) 0)) (hy : ∀ p : Nat, p < K → NumP (ys.getD (p * C + j) 0)) :
    ∀ k : Nat, k ≤ K → -160000000000000000 * (k : Int) ≤ dot K C xs ys i j k ∧ dot K C xs ys i j k ≤ 160000000000000000 * (k : Int) := by
  intro k
  induction k with
  | zero => intro _; simp [dot]
  | succ k ih =>
    intro hk
    have h := ih (by omega)
    have m := mul_num _ _ (hx k (by omega)) (hy k (by omega))
    simp only [dot]
    push_cast
    omega
def mulM (r c : Int) (xs : List Int) (r' c' : Int) (ys : List Int) : MR := if (isMat r c xs && isMat r' c' ys && decide (c = r')) = true then MR.done r c' (mulL r.toNat c.toNat c'.toNat xs ys) else MR.no
end Go.Proofs.Ytpelnfenfeoeeaa
end

section
/-
  What SameMatrix answers.
-/
namespace Go.Proofs.Ytpelnfenfeoeeaa
def sameM (r c : Int) (xs : List Int) (r' c' : Int) (ys : List Int) : Bool := decide (r = r' ∧ c = c' ∧ xs = ys)
end Go.Proofs.Ytpelnfenfeoeeaa
end

section
/-
  Plain mathematics of chapter 3: products and matrices turned over. Nothing of a program is used.
-/
namespace Go.Proofs.Ytpelnfenfeoeeaa
theorem mulL_length (R K C : Nat) (xs ys : List Int) : (mulL R K C xs ys).length = R * C := tab_length _ _ _
theorem mulL_at (R K C : Nat) (xs ys : List Int) {i j : Nat} (hi : i < R) (hj : j < C) : (mulL R K C xs ys).getD (i * C + j) 0 = dot K C xs ys i j K := by
  unfold mulL
  rw [tab_at R C _ hi hj]
theorem sameM_self (r c : Int) (zs : List Int) : sameM r c zs r c zs = true := decide_eq_true ⟨rfl, rfl, rfl⟩
end Go.Proofs.Ytpelnfenfeoeeaa
end

section
/-
  Plain mathematics of chapter 3: products can be grouped in any way, and distribute over sums. Nothing of a program is used.
-/
namespace Go.Proofs.Ytpelnfenfeoeeaa
theorem dot_sum (K C : Nat) (xs ys : List Int) (i j : Nat) : ∀ n : Nat, dot K C xs ys i j n = sumN n (fun k => xs.getD (i * K + k) 0 * ys.getD (k * C + j) 0) := by
  intro n
  induction n with
  | zero => rfl
  | succ n ih => show dot K C xs ys i j n + _ = _; rw [ih]; rfl
end Go.Proofs.Ytpelnfenfeoeeaa
end

section
/-
  Plain mathematics of chapter 12: unimodular multiples span one lattice; the state of the work towards a Hermite form. Nothing of a program is used.
-/
namespace Go.Proofs.Ytpelnfenfeoeeaa
theorem SubL.mul (n c : Nat) (U M : Mx) : SubL n n c (mulX n U M) M := fun i _ => ⟨U i, fun _ _ => rfl⟩
theorem SubL.unmul {n c : Nat} {U M : Mx} (h : det n U = 1 ∨ det n U = -1) : SubL n n c M (mulX n U M) := by
  rcases n with _ | m
  · intro i hi; omega
  intro i hi
  refine ⟨fun a => det (m + 1) U * adjX m U i a, fun j _ => ?_⟩
  have hd : det (m + 1) U * det (m + 1) U = 1 := by rcases h with h | h <;> rw [h] <;> rfl
  have e1 : (sumN (m + 1) fun a => det (m + 1) U * adjX m U i a * mulX (m + 1) U M a j) = sumN (m + 1) fun a => sumN (m + 1) fun b => det (m + 1) U * (adjX m U i a * U a b) * M b j := by
    refine sumN_congr fun a _ => ?_
    show det (m + 1) U * adjX m U i a * (sumN (m + 1) fun b => U a b * M b j) = _
    rw [sumN_mul_left]
    exact sumN_congr fun b _ => by grind
  rw [e1, sumN_swap]
  have e2 : (sumN (m + 1) fun b => sumN (m + 1) fun a => det (m + 1) U * (adjX m U i a * U a b) * M b j) = sumN (m + 1) fun b => det (m + 1) U * (if i = b then det (m + 1) U else 0) * M b j := by
    refine sumN_congr fun b hb => ?_
    rw [← sumN_mul, ← sumN_mul_left]
    have := adj_mul m U i b hi hb
    unfold mulX at this
    rw [this]
  rw [e2, sumN_one (a := i) hi (fun b _ hne => by rw [if_neg (Ne.symm hne), Int.mul_zero, Int.zero_mul]), if_pos rfl, hd, Int.one_mul]
theorem opX_mul {k : Int} {I J : Nat} {t : Int} {n : Nat} {U M A : Mx} {c : Nat} (hI : I < n) (hJ : J < n) (h : ∀ i j, i < n → j < c → mulX n U M i j = A i j) : ∀ i j, i < n → j < c → mulX n (opX k I J t U) M i j = opX k I J t A i j := fun i j hi hj => by
  unfold opX
  by_cases k0 : k = 0
  · rw [if_pos k0]
    show (sumN n fun a => (if k = 0 then (if i = I then U J a else if i = J then U I a else U i a) else if k = 1 then (if i = I then - U i a else U i a) else (if i = I then U i a + U J a * t else U i a)) * M a j) = _
    simp only [if_pos k0]
    by_cases e1 : i = I
    · simp only [if_pos e1]; exact h J j hJ hj
    · simp only [if_neg e1]
      by_cases e2 : i = J
      · simp only [if_pos e2]; exact h I j hI hj
      · simp only [if_neg e2]; exact h i j hi hj
  · rw [if_neg k0]
    show (sumN n fun a => (if k = 0 then (if i = I then U J a else if i = J then U I a else U i a) else if k = 1 then (if i = I then - U i a else U i a) else (if i = I then U i a + U J a * t else U i a)) * M a j) = _
    simp only [if_neg k0]
    by_cases k1 : k = 1
    · simp only [if_pos k1]
      by_cases e1 : i = I
      · simp only [if_pos e1]
        rw [← h i j hi hj]
        show _ = - sumN n fun a => U i a * M a j
        rw [show (- sumN n fun a => U i a * M a j) = (-1) * sumN n fun a => U i a * M a j by omega, sumN_mul_left]
        exact sumN_congr fun a _ => by grind
      · simp only [if_neg e1]; exact h i j hi hj
    · simp only [if_neg k1]
      by_cases e1 : i = I
      · simp only [if_pos e1]
        rw [← h i j hi hj, ← h J j hJ hj]
        show _ = (sumN n fun a => U i a * M a j) + (sumN n fun a => U J a * M a j) * t
        rw [sumN_mul, ← sumN_add]
        exact sumN_congr fun a _ => by grind
      · simp only [if_neg e1]; exact h i j hi hj
structure Acc (n c : Nat) (U M A : Mx) : Prop where
  mul : ∀ i j, i < n → j < c → mulX n U M i j = A i j
  uni : det n U = 1 ∨ det n U = -1
theorem Acc.start (n c : Nat) (M : Mx) : Acc n c idX M M := ⟨fun i j hi _ => by
  show (sumN n fun k => idX i k * M k j) = M i j
  rw [sumN_one (a := i) hi (fun k _ hne => by unfold idX; rw [if_neg (Ne.symm hne), Int.zero_mul])]
  unfold idX
  rw [if_pos rfl, Int.one_mul], .inl (det_id n)⟩
theorem Acc.op {n c : Nat} {U M A : Mx} (h : Acc n c U M A) {k : Int} {I J : Nat} {t : Int} (hk : k = 0 ∨ k = 1 ∨ k = 2) (hI : I < n) (hJ : J < n) (hIJ : k ≠ 1 → I ≠ J) : Acc n c (opX k I J t U) M (opX k I J t A) := by
  refine ⟨opX_mul hI hJ h.mul, ?_⟩
  rw [opX_det U hk hI hJ hIJ]
  have := h.uni
  unfold opSg
  split <;> omega
theorem Acc.congr {n c : Nat} {U V M A B : Mx} (h : Acc n c U M A) (hu : EqX n U V) (ha : ∀ i j, i < n → j < c → A i j = B i j) : Acc n c V M B := by
  refine ⟨fun i j hi hj => ?_, by rw [← det_congr hu]; exact h.uni⟩
  rw [← ha i j hi hj, ← h.mul i j hi hj]
  exact sumN_congr fun k hk => by rw [hu i k hi hk]
theorem Acc.sub {n c : Nat} {U M A : Mx} (h : Acc n c U M A) : SubL n n c A M ∧ SubL n n c M A := by
  have e1 : SubL n n c A (mulX n U M) := SubL.congr fun i j hi hj => (h.mul i j hi hj).symm
  have e2 : SubL n n c (mulX n U M) A := SubL.congr fun i j hi hj => h.mul i j hi hj
  exact ⟨e1.trans (SubL.mul n c U M), (SubL.unmul h.uni).trans e2⟩
theorem Acc.uniq {n c : Nat} {U U' M M' A A' : Mx} {q q' : Nat → Nat} {t t' : Nat} (h : Acc n c U M A) (h' : Acc n c U' M' A') (hA : HerP n c A q t) (hA' : HerP n c A' q' t') (h1 : SubL n n c M M') (h2 : SubL n n c M' M) : t = t' ∧ ∀ i j, i < n → j < c → A i j = A' i j :=
  hA.uniq hA' ((h'.sub.1.trans h2).trans h.sub.2) ((h.sub.1.trans h1).trans h'.sub.2)
structure HInv (r c : Nat) (A : Mx) (q : Nat → Nat) (t j : Nat) : Prop where
  le : t ≤ r
  jc : j ≤ c
  col : ∀ k, k < t → q k < j
  inc : ∀ k l, k < l → l < t → q k < q l
  pos : ∀ k, k < t → 0 < A k (q k)
  left : ∀ k b, k < t → b < q k → A k b = 0
  above : ∀ k i, k < t → i < k → 0 ≤ A i (q k) ∧ A i (q k) < A k (q k)
  low : ∀ i b, t ≤ i → i < r → b < j → A i b = 0
section
variable {r c t j : Nat} {A B : Mx} {q : Nat → Nat}
theorem HInv.start (r c : Nat) (A : Mx) (q : Nat → Nat) : HInv r c A q 0 0 := ⟨Nat.zero_le _, Nat.zero_le _, fun k hk => by omega, fun k l _ hl => by omega, fun k hk => by omega, fun k b hk => by omega, fun k i hk => by omega, fun i b _ _ hb => by omega⟩
theorem HInv.congr (h : HInv r c A q t j) (e : ∀ i b, i < r → b < j → B i b = A i b) : HInv r c B q t j := by
  have hle := h.le
  refine ⟨h.le, h.jc, h.col, h.inc, fun k hk => ?_, fun k b hk hb => ?_, fun k i hk hi => ?_, fun i b h1 h2 h3 => ?_⟩
  · rw [e k _ (by omega) (h.col k hk)]; exact h.pos k hk
  · have := h.col k hk
    rw [e k b (by omega) (by omega)]; exact h.left k b hk hb
  · rw [e i _ (by omega) (h.col k hk), e k _ (by omega) (h.col k hk)]; exact h.above k i hk hi
  · rw [e i b h2 h3]; exact h.low i b h1 h2 h3
theorem HInv.skip (h : HInv r c A q t j) (hj : j < c) (hz : ∀ i, t ≤ i → i < r → A i j = 0) : HInv r c A q t (j + 1) := by
  refine ⟨h.le, hj, fun k hk => by have := h.col k hk; omega, h.inc, h.pos, h.left, h.above, fun i b h1 h2 h3 => ?_⟩
  rcases Nat.lt_or_ge b j with h4 | h4
  · exact h.low i b h1 h2 h4
  · obtain rfl : b = j := by omega
    exact hz i h1 h2
def putQ (q : Nat → Nat) (t j : Nat) : Nat → Nat := fun k => if k = t then j else q k
theorem HInv.put (h : HInv r c A q t j) (hj : j < c) (ht : t < r) (hp : 0 < A t j) (hz : ∀ i, t < i → i < r → A i j = 0) (ha : ∀ i, i < t → 0 ≤ A i j ∧ A i j < A t j) : HInv r c A (putQ q t j) (t + 1) (j + 1) := by
  have q1 : ∀ k, k < t → putQ q t j k = q k := fun k hk => if_neg (by omega)
  have q2 : putQ q t j t = j := if_pos rfl
  have sp : ∀ k, k < t + 1 → k < t ∨ k = t := fun k hk => by omega
  refine ⟨ht, hj, fun k hk => ?_, fun k l hkl hl => ?_, fun k hk => ?_, fun k b hk hb => ?_, fun k i hk hi => ?_, fun i b h1 h2 h3 => ?_⟩
  · rcases sp k hk with h1 | rfl
    · rw [q1 k h1]; have := h.col k h1; omega
    · rw [q2]; omega
  · rcases sp l hl with h1 | rfl
    · rw [q1 l h1, q1 k (by omega)]; exact h.inc k l hkl h1
    · rw [q2, q1 k hkl]; exact h.col k hkl
  · rcases sp k hk with h1 | rfl
    · rw [q1 k h1]; exact h.pos k h1
    · rw [q2]; exact hp
  · rcases sp k hk with h1 | rfl
    · rw [q1 k h1] at hb; exact h.left k b h1 hb
    · rw [q2] at hb; exact h.low k b (Nat.le_refl _) ht hb
  · rcases sp k hk with h1 | rfl
    · rw [q1 k h1]; exact h.above k i h1 hi
    · rw [q2]; exact ha i hi
  · rcases Nat.lt_or_ge b j with h4 | h4
    · exact h.low i b (by omega) h2 h4
    · obtain rfl : b = j := by omega
      exact hz i (by omega) h2
theorem HInv.done (h : HInv r c A q t j) (he : t = r ∨ j = c) : HerP r c A q t :=
  ⟨h.le, fun k hk => by have := h.col k hk; have := h.jc; omega, h.inc, h.pos, h.left, fun i b h1 h2 h3 => by
    rcases he with e | e
    · omega
    · exact h.low i b h1 h2 (by omega), h.above⟩
theorem HInv.opAdd (h : HInv r c A q t j) {I J : Nat} {z : Int} (hJ : t ≤ J) (hJr : J < r) : HInv r c (opX 2 I J z A) q t j := h.congr fun i b hi hb => by
  unfold opX
  rw [if_neg (by decide), if_neg (by decide)]
  split
  · rw [h.low J b hJ hJr hb, Int.zero_mul, Int.add_zero]
  · rfl
theorem HInv.opSwap (h : HInv r c A q t j) {I J : Nat} {z : Int} (hI : t ≤ I) (hIr : I < r) (hJ : t ≤ J) (hJr : J < r) : HInv r c (opX 0 I J z A) q t j := h.congr fun i b hi hb => by
  unfold opX
  rw [if_pos rfl]
  split
  · rename_i e; rw [h.low J b hJ hJr hb, e, h.low I b hI hIr hb]
  · split
    · rename_i e; rw [h.low I b hI hIr hb, e, h.low J b hJ hJr hb]
    · rfl
theorem HInv.opNeg (h : HInv r c A q t j) {I J : Nat} {z : Int} (hI : t ≤ I) (hIr : I < r) : HInv r c (opX 1 I J z A) q t j := h.congr fun i b hi hb => by
  unfold opX
  rw [if_neg (by decide), if_pos rfl]
  split
  · rename_i e; rw [e, h.low I b hI hIr hb]; rfl
  · rfl
end
end Go.Proofs.Ytpelnfenfeoeeaa
end

section
/-
  Plain mathematics of chapter 7: primitive rows. Nothing of a program is used.
-/
namespace Go.Proofs.Ytpelnfenfeoeeaa
end Go.Proofs.Ytpelnfenfeoeeaa
end

section
/-
  Plain mathematics of chapter 7: elimination over lists of cells with primitive rows ends in the echelon form. Nothing of a program is used.
-/
namespace Go.Proofs.Ytpelnfenfeoeeaa
def mxC (c : Nat) (xs : List Int) : Mx := fun i j => xs.getD (i * c + j) 0
def fstR (c j : Nat) (xs : List Int) : Nat → Nat → Nat
  | 0, p => p
  | k + 1, p => if mxC c xs p j = 0 then fstR c j xs k (p + 1) else p
theorem fstR_says {c j : Nat} {xs : List Int} : ∀ {k p : Nat}, p ≤ fstR c j xs k p ∧ fstR c j xs k p ≤ p + k ∧ (∀ q, p ≤ q → q < fstR c j xs k p → mxC c xs q j = 0) ∧ (fstR c j xs k p < p + k → mxC c xs (fstR c j xs k p) j ≠ 0) := by
  intro k
  induction k with
  | zero => intro p; exact ⟨Nat.le_refl _, Nat.le_refl _, fun q h1 h2 => absurd h2 (by show ¬ q < p; omega), fun h => absurd h (by show ¬ p < p + 0; omega)⟩
  | succ k ih =>
    intro p
    by_cases h : mxC c xs p j = 0
    · have e : fstR c j xs (k + 1) p = fstR c j xs k (p + 1) := if_pos h
      rw [e]
      obtain ⟨h1, h2, h3, h4⟩ := ih (p := p + 1)
      refine ⟨by omega, by omega, fun q h5 h6 => ?_, fun h5 => h4 (by omega)⟩
      rcases Nat.lt_or_ge p q with h7 | h7
      · exact h3 q h7 h6
      · obtain rfl : q = p := by omega
        exact h
    · have e : fstR c j xs (k + 1) p = p := if_neg h
      rw [e]
      exact ⟨Nat.le_refl _, by omega, fun q h1 h2 => by omega, fun _ => h⟩
theorem fstR_eq {c j : Nat} {xs : List Int} : ∀ {k p q : Nat}, p ≤ q → q ≤ p + k → (∀ i, p ≤ i → i < q → mxC c xs i j = 0) → (q < p + k → mxC c xs q j ≠ 0) → fstR c j xs k p = q := by
  intro k
  induction k with
  | zero => intro p q h1 h2 _ _; show p = q; omega
  | succ k ih =>
    intro p q h1 h2 hz hn
    show (if mxC c xs p j = 0 then fstR c j xs k (p + 1) else p) = q
    rcases Nat.lt_or_ge p q with h | h
    · rw [if_pos (hz p (Nat.le_refl _) h)]
      exact ih (by omega) (by omega) (fun i h3 h4 => hz i (by omega) h4) (fun h3 => hn (by omega))
    · obtain rfl : p = q := by omega
      rw [if_neg (hn (by omega))]
theorem mx_nums {r c : Nat} {xs : List Int} (hx : xs.length = r * c) (h : nums xs = true) {i j : Nat} (hi : i < r) (hj : j < c) : NumP (mxC c xs i j) := nums_at h (by rw [hx]; exact idx_lt hi hj)
end Go.Proofs.Ytpelnfenfeoeeaa
end

section
/-
  Plain mathematics of chapter 12: the work towards a Hermite form, on lists, with marks for what is beyond the limit. Nothing of a program is used.
-/
namespace Go.Proofs.Ytpelnfenfeoeeaa
def MkOr (xs : List Int) : Prop := ∀ p, xs.getD p 0 = badN ∨ NumP (xs.getD p 0)
theorem getD_out {xs : List Int} {p : Nat} (h : xs.length ≤ p) : xs.getD p 0 = 0 := by simp [List.getD, h]
theorem MkOr.of_nums {xs : List Int} (h : nums xs = true) : MkOr xs := fun p => .inr (nums_def h p)
theorem mulB_or (a b : Int) : mulB a b = badN ∨ NumP (mulB a b) := by
  unfold mulB
  split
  · exact .inl rfl
  · exact fitB_or _
theorem addB_or (a b : Int) : addB a b = badN ∨ NumP (addB a b) := by
  unfold addB
  split
  · exact .inl rfl
  · exact fitB_or _
theorem MkOr.op {k : Int} {I J : Nat} {z : Int} {C : Nat} {xs : List Int} (h : MkOr xs) : MkOr (opL k I J z C xs) := fun p => by
  rcases Nat.lt_or_ge p xs.length with hp | hp
  · rw [opL_getD hp]
    unfold opAt
    split
    · split
      · exact h _
      · split
        · exact h _
        · exact h _
    · split
      · split
        · exact mulB_or _ _
        · exact h _
      · split
        · exact addB_or _ _
        · exact h _
  · rw [getD_out (by rw [opL_length]; exact hp)]
    exact .inr (by decide)
theorem mulB_keeps {a b : Int} (h : NumP (mulB a b)) : a ≠ badN := fun e => by
  unfold mulB at h
  rw [if_pos (.inl e)] at h
  exact bad_not h
theorem addB_keeps {a b : Int} (h : NumP (addB a b)) : a ≠ badN := fun e => by
  unfold addB at h
  rw [if_pos (.inl e)] at h
  exact bad_not h
theorem nums_back {k : Int} {I J : Nat} {z : Int} {R C : Nat} {xs : List Int} (h : MkOr xs) (hl : xs.length = R * C) (hI : I < R) (hJ : J < R) (hn : nums (opL k I J z C xs) = true) : nums xs = true := by
  have at_ : ∀ p, p < xs.length → NumP (opAt k I J z C xs p) := fun p hp => by
    have := nums_at hn (j := p) (by rw [opL_length]; exact hp)
    rwa [opL_getD hp] at this
  refine nums_true fun p hp => ?_
  have hC : 0 < C := by
    rcases Nat.eq_zero_or_pos C with e | e
    · subst e; omega
    · exact e
  have hm : p % C < C := Nat.mod_lt p hC
  have ep : p / C * C + p % C = p := Nat.div_add_mod' p C
  have h1 := at_ p hp
  unfold opAt at h1
  by_cases k0 : k = 0
  · rw [if_pos k0] at h1
    by_cases e1 : p / C = I
    · have hq : J * C + p % C < xs.length := by rw [hl]; exact idx_lt hJ hm
      have h2 := at_ _ hq
      unfold opAt at h2
      rw [if_pos k0, idx_div hm, idx_mod hm] at h2
      by_cases e2 : J = I
      · rw [if_pos e2, e2, ← e1, ep] at h2; exact h2
      · rw [if_neg e2, if_pos rfl, ← e1, ep] at h2; exact h2
    · by_cases e2 : p / C = J
      · have hq : I * C + p % C < xs.length := by rw [hl]; exact idx_lt hI hm
        have h2 := at_ _ hq
        unfold opAt at h2
        rw [if_pos k0, idx_div hm, idx_mod hm, if_pos rfl, ← e2, ep] at h2
        exact h2
      · rw [if_neg e1, if_neg e2] at h1; exact h1
  · rw [if_neg k0] at h1
    by_cases k1 : k = 1
    · rw [if_pos k1] at h1
      split at h1
      · exact (h p).resolve_left (mulB_keeps h1)
      · exact h1
    · rw [if_neg k1] at h1
      split at h1
      · exact (h p).resolve_left (addB_keeps h1)
      · exact h1
theorem opL_mx {k : Int} {I J : Nat} {z : Int} {R C : Nat} {xs : List Int} (hk : k = 0 ∨ k = 1 ∨ k = 2) (hl : xs.length = R * C) (hx : nums xs = true) (hI : I < R) (hz : NumP z) (hn : nums (opL k I J z C xs) = true) : ∀ i j, i < R → j < C → mxC C (opL k I J z C xs) i j = opX k I J z (mxC C xs) i j := fun i j hi hj => by
  show (opL k I J z C xs).getD (i * C + j) 0 = _
  rw [opL_raw hk hl hx hI hz hn _ (idx_lt hi hj), rwAt_mx hj]
  rfl
abbrev HSt := List Int × List Int
def op2 (R C : Nat) (k : Int) (I J : Nat) (z : Int) (s : HSt) : HSt := (opL k I J z C s.1, opL k I J z R s.2)
def okS (s : HSt) : Bool := nums s.1 && nums s.2
def celS (C : Nat) (s : HSt) (i j : Nat) : Int := mxC C s.1 i j
structure Siz (R C : Nat) (s : HSt) : Prop where
  l1 : s.1.length = R * C
  l2 : s.2.length = R * R
  m1 : MkOr s.1
  m2 : MkOr s.2
theorem Siz.op {R C : Nat} {s : HSt} (h : Siz R C s) (k : Int) (I J : Nat) (z : Int) : Siz R C (op2 R C k I J z s) :=
  ⟨by show (opL k I J z C s.1).length = _; rw [opL_length]; exact h.l1, by show (opL k I J z R s.2).length = _; rw [opL_length]; exact h.l2, h.m1.op, h.m2.op⟩
theorem okS_and {s : HSt} (h : okS s = true) : nums s.1 = true ∧ nums s.2 = true := by
  unfold okS at h
  rwa [Bool.and_eq_true] at h
theorem okS_back {R C : Nat} {s : HSt} (h : Siz R C s) {k : Int} {I J : Nat} {z : Int} (hI : I < R) (hJ : J < R) (ho : okS (op2 R C k I J z s) = true) : okS s = true := by
  obtain ⟨a, b⟩ := okS_and ho
  unfold okS
  rw [nums_back h.m1 h.l1 hI hJ a, nums_back h.m2 h.l2 hI hJ b]; rfl
structure Fin2 (R C : Nat) (M : Mx) (s : HSt) : Prop where
  siz : Siz R C s
  ok : okS s = true
  acc : Acc R C (mxC R s.2) M (mxC C s.1)
theorem Fin2.op {R C : Nat} {M : Mx} {s : HSt} (h : Fin2 R C M s) {k : Int} {I J : Nat} {z : Int} (hk : k = 0 ∨ k = 1 ∨ k = 2) (hI : I < R) (hJ : J < R) (hIJ : k ≠ 1 → I ≠ J) (hz : NumP z) (ho : okS (op2 R C k I J z s) = true) :
    Fin2 R C M (op2 R C k I J z s) ∧ ∀ i j, i < R → j < C → celS C (op2 R C k I J z s) i j = opX k I J z (mxC C s.1) i j := by
  obtain ⟨a, b⟩ := okS_and ho
  obtain ⟨a0, b0⟩ := okS_and h.ok
  have e1 := opL_mx hk h.siz.l1 a0 hI hz a
  have e2 := opL_mx hk h.siz.l2 b0 hI hz b
  exact ⟨⟨h.siz.op k I J z, ho, (h.acc.op hk hI hJ hIJ).congr (fun i j hi hj => (e2 i j hi hj).symm) fun i j hi hj => (e1 i j hi hj).symm⟩, e1⟩
theorem Fin2.num {R C : Nat} {M : Mx} {s : HSt} (h : Fin2 R C M s) (i j : Nat) : NumP (celS C s i j) := nums_def (okS_and h.ok).1 _
theorem quot_left {x y : Int} (hy : y ≠ 0) : x + y * (-(x / y)) = x % y ∧ 0 ≤ x % y ∧ x % y < (y.natAbs : Int) := by
  refine ⟨?_, Int.emod_nonneg x hy, Int.emod_lt x hy⟩
  rw [Int.emod_def, Int.mul_neg]; rfl
theorem quot_num {x y : Int} (hx : NumP x) (hy : y ≠ 0) : NumP (-(x / y)) := by
  unfold NumP at *
  obtain ⟨q1, q2, q3⟩ := quot_left (x := x) hy
  have hb : ((x / y).natAbs : Int) ≤ 400000000 := by
    have := Int.natAbs_ediv_le_natAbs x y
    omega
  omega
def leastF (f : Nat → Int) (t : Nat) : Nat → Int
  | 0 => -1
  | n + 1 => if f (t + n) ≠ 0 ∧ (leastF f t n < 0 ∨ (f (t + n)).natAbs < (f (leastF f t n).toNat).natAbs) then ((t + n : Nat) : Int) else leastF f t n
theorem leastF_says (f : Nat → Int) (t : Nat) : ∀ n : Nat, (leastF f t n = -1 ∧ ∀ i, t ≤ i → i < t + n → f i = 0) ∨ ∃ p : Nat, leastF f t n = (p : Int) ∧ t ≤ p ∧ p < t + n ∧ f p ≠ 0 ∧ ∀ i, t ≤ i → i < t + n → f i ≠ 0 → (f p).natAbs ≤ (f i).natAbs
  | 0 => .inl ⟨rfl, fun i h1 h2 => by omega⟩
  | n + 1 => by
    have sp : ∀ i, t ≤ i → i < t + (n + 1) → i < t + n ∨ i = t + n := fun i _ _ => by omega
    have step : leastF f t (n + 1) = if f (t + n) ≠ 0 ∧ (leastF f t n < 0 ∨ (f (t + n)).natAbs < (f (leastF f t n).toNat).natAbs) then ((t + n : Nat) : Int) else leastF f t n := rfl
    rcases leastF_says f t n with ⟨h1, h2⟩ | ⟨p, h1, h2, h3, h4, h5⟩
    · by_cases h0 : f (t + n) = 0
      · refine .inl ⟨by rw [step, if_neg (fun h => h.1 h0), h1], fun i hi hi2 => ?_⟩
        rcases sp i hi hi2 with h | rfl
        · exact h2 i hi h
        · exact h0
      · refine .inr ⟨t + n, by rw [step, if_pos ⟨h0, .inl (by omega)⟩], by omega, by omega, h0, fun i hi hi2 hne => ?_⟩
        rcases sp i hi hi2 with h | rfl
        · exact absurd (h2 i hi h) hne
        · exact Nat.le_refl _
    · have ep : (leastF f t n).toNat = p := by omega
      rw [ep] at step
      by_cases hc : f (t + n) ≠ 0 ∧ (leastF f t n < 0 ∨ (f (t + n)).natAbs < (f p).natAbs)
      · refine .inr ⟨t + n, by rw [step, if_pos hc], by omega, by omega, hc.1, fun i hi hi2 hne => ?_⟩
        have hlt : (f (t + n)).natAbs < (f p).natAbs := by
          rcases hc.2 with h | h
          · omega
          · exact h
        rcases sp i hi hi2 with h | rfl
        · have := h5 i hi h hne; omega
        · exact Nat.le_refl _
      · refine .inr ⟨p, by rw [step, if_neg hc, h1], h2, by omega, h4, fun i hi hi2 hne => ?_⟩
        rcases sp i hi hi2 with h | rfl
        · exact h5 i hi h hne
        · exact Nat.le_of_not_lt fun hlt => hc ⟨hne, .inr hlt⟩
def rndF (R C p j t : Nat) (s : HSt) : Nat → HSt
  | 0 => s
  | n + 1 => if t + n ≠ p ∧ celS C (rndF R C p j t s n) (t + n) j ≠ 0 then op2 R C 2 (t + n) p (-(celS C (rndF R C p j t s n) (t + n) j / celS C (rndF R C p j t s n) p j)) (rndF R C p j t s n) else rndF R C p j t s n
theorem rndF_siz {R C p j t : Nat} {s : HSt} (h : Siz R C s) : ∀ n, Siz R C (rndF R C p j t s n)
  | 0 => h
  | n + 1 => by
    show Siz R C (if _ then _ else _)
    split
    · exact (rndF_siz h n).op _ _ _ _
    · exact rndF_siz h n
theorem rndF_back {R C p j t : Nat} {s : HSt} (h : Siz R C s) (hp : p < R) {n : Nat} (hn : t + n < R) (ho : okS (rndF R C p j t s (n + 1)) = true) : okS (rndF R C p j t s n) = true := by
  change okS (if _ then _ else _) = true at ho
  split at ho
  · exact okS_back (rndF_siz h n) hn hp ho
  · exact ho
theorem rndF_says {R C p j t : Nat} {M : Mx} {s : HSt} {q : Nat → Nat} (hF : Fin2 R C M s) (hI : HInv R C (mxC C s.1) q t j) (hj : j < C) (hp : p < R) (htp : t ≤ p) (hpz : celS C s p j ≠ 0) : ∀ n, t + n ≤ R → okS (rndF R C p j t s n) = true →
    Fin2 R C M (rndF R C p j t s n) ∧ HInv R C (mxC C (rndF R C p j t s n).1) q t j ∧ celS C (rndF R C p j t s n) p j = celS C s p j ∧ (∀ i, i < R → t + n ≤ i → celS C (rndF R C p j t s n) i j = celS C s i j) ∧ (∀ i, t ≤ i → i < t + n → i ≠ p → 0 ≤ celS C (rndF R C p j t s n) i j ∧ celS C (rndF R C p j t s n) i j < ((celS C s p j).natAbs : Int))
  | 0, _, _ => ⟨hF, hI, rfl, fun _ _ _ => rfl, fun i h1 h2 => by omega⟩
  | n + 1, hn, ho => by
    obtain ⟨g1, g2, g3, g4, g5⟩ := rndF_says hF hI hj hp htp hpz n (by omega) (rndF_back hF.siz hp (by omega) ho)
    by_cases hc : t + n ≠ p ∧ celS C (rndF R C p j t s n) (t + n) j ≠ 0
    · have es : rndF R C p j t s (n + 1) = op2 R C 2 (t + n) p (-(celS C (rndF R C p j t s n) (t + n) j / celS C (rndF R C p j t s n) p j)) (rndF R C p j t s n) := if_pos hc
      rw [es] at ho ⊢
      have hy : celS C (rndF R C p j t s n) p j ≠ 0 := by rw [g3]; exact hpz
      obtain ⟨k1, k2⟩ := g1.op (.inr (.inr rfl)) (by omega) hp (fun _ => hc.1) (quot_num (g1.num _ _) hy) ho
      have ql := quot_left (x := celS C (rndF R C p j t s n) (t + n) j) hy
      have ce : ∀ i b, i < R → b < C → i ≠ t + n → celS C (op2 R C 2 (t + n) p (-(celS C (rndF R C p j t s n) (t + n) j / celS C (rndF R C p j t s n) p j)) (rndF R C p j t s n)) i b = celS C (rndF R C p j t s n) i b := fun i b hi hb hne => by
        rw [k2 i b hi hb]
        unfold opX
        rw [if_neg (by decide), if_neg (by decide), if_neg hne]; rfl
      have cn : celS C (op2 R C 2 (t + n) p (-(celS C (rndF R C p j t s n) (t + n) j / celS C (rndF R C p j t s n) p j)) (rndF R C p j t s n)) (t + n) j = celS C (rndF R C p j t s n) (t + n) j % celS C (rndF R C p j t s n) p j := by
        rw [k2 (t + n) j (by omega) hj, ← ql.1]
        unfold opX
        rw [if_neg (by decide), if_neg (by decide), if_pos rfl]; rfl
      refine ⟨k1, (g2.opAdd htp hp).congr fun i b hi hb => k2 i b hi (by omega), by rw [ce p j hp hj (Ne.symm hc.1)]; exact g3, fun i hi h1 => by rw [ce i j hi hj (by omega)]; exact g4 i hi (by omega), fun i h1 h2 h3 => ?_⟩
      rcases Nat.lt_or_ge i (t + n) with h4 | h4
      · rw [ce i j (by omega) hj (by omega)]; exact g5 i h1 h4 h3
      · obtain rfl : i = t + n := by omega
        rw [cn, g3]
        rw [g3] at ql
        exact ql.2
    · have es : rndF R C p j t s (n + 1) = rndF R C p j t s n := if_neg hc
      rw [es]
      refine ⟨g1, g2, g3, fun i hi h1 => g4 i hi (by omega), fun i h1 h2 h3 => ?_⟩
      rcases Nat.lt_or_ge i (t + n) with h4 | h4
      · exact g5 i h1 h4 h3
      · obtain rfl : i = t + n := by omega
        have h0 : celS C (rndF R C p j t s n) (t + n) j = 0 := Classical.byContradiction fun h => hc ⟨h3, h⟩
        rw [h0]
        exact ⟨Int.le_refl _, by omega⟩
end Go.Proofs.Ytpelnfenfeoeeaa
end

section
/-
  Plain mathematics of chapter 12: the whole of the work towards a Hermite form, and what it ends in. Nothing of a program is used.
-/
namespace Go.Proofs.Ytpelnfenfeoeeaa
def aloneB (R C p j t : Nat) (s : HSt) : Bool := (List.range R).all fun i => decide (i < t ∨ i = p ∨ celS C s i j = 0)
theorem aloneB_says {R C p j t : Nat} {s : HSt} (h : aloneB R C p j t s = true) {i : Nat} (hi : i < R) (ht : t ≤ i) (hne : i ≠ p) : celS C s i j = 0 := by
  unfold aloneB at h
  rw [List.all_eq_true] at h
  have := h i (List.mem_range.mpr hi)
  rw [decide_eq_true_eq] at this
  rcases this with h1 | h1 | h1
  · omega
  · exact absurd h1 hne
  · exact h1
theorem aloneB_true {R C p j t : Nat} {s : HSt} (h : ∀ i, i < R → t ≤ i → i ≠ p → celS C s i j = 0) : aloneB R C p j t s = true := by
  unfold aloneB
  rw [List.all_eq_true]
  intro i hi
  rw [decide_eq_true_eq]
  rcases Nat.lt_or_ge i t with h1 | h1
  · exact .inl h1
  · by_cases h2 : i = p
    · exact .inr (.inl h2)
    · exact .inr (.inr (h i (List.mem_range.mp hi) h1 h2))
theorem aloneB_false {R C p j t : Nat} {s : HSt} {i : Nat} (hi : i < R) (ht : t ≤ i) (hne : i ≠ p) (hz : celS C s i j ≠ 0) : aloneB R C p j t s = false := by
  cases h : aloneB R C p j t s with
  | false => rfl
  | true => exact absurd (aloneB_says h hi ht hne) hz
def leastS (R C j t : Nat) (s : HSt) : Int := leastF (fun i => celS C s i j) t (R - t)
def LeastP (R C j t : Nat) (s : HSt) (p : Nat) : Prop := leastS R C j t s = (p : Int) ∧ t ≤ p ∧ p < R ∧ celS C s p j ≠ 0 ∧ ∀ i, t ≤ i → i < R → celS C s i j ≠ 0 → (celS C s p j).natAbs ≤ (celS C s i j).natAbs
theorem leastS_says (R C j t : Nat) (s : HSt) (ht : t ≤ R) : (leastS R C j t s = -1 ∧ ∀ i, t ≤ i → i < R → celS C s i j = 0) ∨ ∃ p, LeastP R C j t s p := by
  rcases leastF_says (fun i => celS C s i j) t (R - t) with ⟨h1, h2⟩ | ⟨p, h1, h2, h3, h4, h5⟩
  · exact .inl ⟨h1, fun i a b => h2 i a (by omega)⟩
  · exact .inr ⟨p, h1, h2, by omega, h4, fun i a b hne => h5 i a (by omega) hne⟩
def rndA (R C p j t : Nat) (s : HSt) : HSt := rndF R C p j t s (R - t)
def loopF (R C j t : Nat) : Nat → HSt → Nat → Option (HSt × Nat)
  | 0, _, _ => none
  | f + 1, s, p => if aloneB R C p j t s = true then some (s, p) else if okS (rndA R C p j t s) = true then loopF R C j t f (rndA R C p j t s) (leastS R C j t (rndA R C p j t s)).toNat else none
def Fuel (R C j t f : Nat) (s : HSt) (p : Nat) : Prop := 1 ≤ f ∧ (aloneB R C p j t s = true ∨ (celS C s p j).natAbs < f)
theorem Fuel.start (R C j t : Nat) (s : HSt) (p : Nat) : Fuel R C j t ((celS C s p j).natAbs + 1) s p := ⟨by omega, .inr (by omega)⟩
theorem loopF_alone {R C j t f : Nat} {s : HSt} {p : Nat} (hf : 1 ≤ f) (h : aloneB R C p j t s = true) : loopF R C j t f s p = some (s, p) := by
  obtain ⟨f, rfl⟩ : ∃ g, f = g + 1 := ⟨f - 1, by omega⟩
  exact if_pos h
theorem loopF_bad {R C j t f : Nat} {s : HSt} {p : Nat} (h : aloneB R C p j t s = false) (ho : okS (rndA R C p j t s) = false) : loopF R C j t f s p = none := by
  rcases f with _ | f
  · rfl
  · show (if _ then _ else _) = _
    rw [if_neg (by rw [h]; decide), if_neg (by rw [ho]; decide)]
theorem loopF_step {R C j t f : Nat} {s : HSt} {p p' : Nat} (h : aloneB R C p j t s = false) (ho : okS (rndA R C p j t s) = true) (hp : leastS R C j t (rndA R C p j t s) = (p' : Int)) : loopF R C j t (f + 1) s p = loopF R C j t f (rndA R C p j t s) p' := by
  show (if _ then _ else _) = _
  rw [if_neg (by rw [h]; decide), if_pos ho, hp]; rfl
section
variable {R C j t : Nat} {M : Mx} {s : HSt} {q : Nat → Nat}
theorem loop_next {p f : Nat} (hF : Fin2 R C M s) (hI : HInv R C (mxC C s.1) q t j) (hj : j < C) (hp : p < R) (htp : t ≤ p) (hpz : celS C s p j ≠ 0) (ha : aloneB R C p j t s = false) (hfu : Fuel R C j t (f + 1) s p) (ho : okS (rndA R C p j t s) = true) :
    Fin2 R C M (rndA R C p j t s) ∧ HInv R C (mxC C (rndA R C p j t s).1) q t j ∧ ∃ p', LeastP R C j t (rndA R C p j t s) p' ∧ Fuel R C j t f (rndA R C p j t s) p' := by
  obtain ⟨g1, g2, g3, -, g5⟩ := rndF_says hF hI hj hp htp hpz (R - t) (by omega) ho
  change Fin2 R C M (rndA R C p j t s) at g1
  change celS C (rndA R C p j t s) p j = _ at g3
  have g5 : ∀ i, t ≤ i → i < R → i ≠ p → 0 ≤ celS C (rndA R C p j t s) i j ∧ celS C (rndA R C p j t s) i j < ((celS C s p j).natAbs : Int) := fun i h1 h2 h3 => g5 i h1 (by omega) h3
  refine ⟨g1, g2, ?_⟩
  have hfu : (celS C s p j).natAbs < f + 1 := by
    rcases hfu.2 with h | h
    · rw [h] at ha; cases ha
    · exact h
  generalize rndA R C p j t s = u at g1 g3 g5 ⊢
  rcases leastS_says R C j t u (by omega) with ⟨h1, h2⟩ | ⟨p', hL⟩
  · exact absurd (h2 p htp hp) (by rw [g3]; exact hpz)
  · refine ⟨p', hL, by omega, ?_⟩
    obtain ⟨-, l2, l3, l4, l5⟩ := hL
    rcases Bool.eq_false_or_eq_true (aloneB R C p' j t u) with hb | hb
    · exact .inl hb
    · refine .inr ?_
      by_cases e : p' = p
      · subst e
        refine absurd hb ?_
        rw [aloneB_true fun i hi hti hne => Classical.byContradiction fun hz => ?_]
        · decide
        · have a := g5 i hti hi hne
          have b := l5 i hti hi hz
          rw [g3] at b
          omega
      · have a := g5 p' l2 l3 e
        omega
theorem loopF_says (hj : j < C) : ∀ (f : Nat) (s : HSt) (p : Nat) {s' : HSt} {p' : Nat}, Fin2 R C M s → HInv R C (mxC C s.1) q t j → p < R → t ≤ p → celS C s p j ≠ 0 → loopF R C j t f s p = some (s', p') →
    Fin2 R C M s' ∧ HInv R C (mxC C s'.1) q t j ∧ p' < R ∧ t ≤ p' ∧ celS C s' p' j ≠ 0 ∧ aloneB R C p' j t s' = true
  | 0, _, _, _, _, _, _, _, _, _, h => by cases h
  | f + 1, s, p, s', p', hF, hI, hp, htp, hpz, h => by
    rcases Bool.eq_false_or_eq_true (aloneB R C p j t s) with ha | ha
    · rw [loopF_alone (by omega) ha] at h
      cases h
      exact ⟨hF, hI, hp, htp, hpz, ha⟩
    · rcases Bool.eq_false_or_eq_true (okS (rndA R C p j t s)) with ho | ho
      · obtain ⟨g1, g2, g3, -, -⟩ := rndF_says hF hI hj hp htp hpz (R - t) (by omega) ho
        rcases leastS_says R C j t (rndA R C p j t s) (by omega) with ⟨h1, h2⟩ | ⟨p2, hL⟩
        · exact absurd (h2 p htp hp) (by show celS C (rndF R C p j t s (R - t)) p j ≠ 0; rw [g3]; exact hpz)
        · rw [loopF_step ha ho hL.1] at h
          exact loopF_says hj f (rndA R C p j t s) p2 g1 g2 hL.2.2.1 hL.2.1 hL.2.2.2.1 h
      · rw [loopF_bad ha ho] at h; cases h
def swS (R C p t : Nat) (s : HSt) : HSt := if p ≠ t then op2 R C 0 p t 0 s else s
def ngS (R C j t : Nat) (s : HSt) : HSt := if celS C s t j < 0 then op2 R C 1 t t 0 s else s
def upF (R C j t : Nat) (s : HSt) : Nat → HSt
  | 0 => s
  | n + 1 => op2 R C 2 n t (-(celS C (upF R C j t s n) n j / celS C (upF R C j t s n) t j)) (upF R C j t s n)
theorem swS_siz {p : Nat} (h : Siz R C s) : Siz R C (swS R C p t s) := by
  unfold swS; split
  · exact h.op _ _ _ _
  · exact h
theorem ngS_siz (h : Siz R C s) : Siz R C (ngS R C j t s) := by
  unfold ngS; split
  · exact h.op _ _ _ _
  · exact h
theorem upF_siz (h : Siz R C s) : ∀ n, Siz R C (upF R C j t s n)
  | 0 => h
  | n + 1 => (upF_siz h n).op _ _ _ _
theorem upF_back (h : Siz R C s) (ht : t < R) : ∀ n, n ≤ R → okS (upF R C j t s n) = true → okS s = true
  | 0, _, ho => ho
  | n + 1, hn, ho => upF_back h ht n (by omega) (okS_back (upF_siz h n) (by omega) ht ho)
theorem ngS_back (h : Siz R C s) (ht : t < R) (ho : okS (ngS R C j t s) = true) : okS s = true := by
  unfold ngS at ho
  split at ho
  · exact okS_back h ht ht ho
  · exact ho
theorem swS_says {p : Nat} (hF : Fin2 R C M s) (hI : HInv R C (mxC C s.1) q t j) (hj : j < C) (hp : p < R) (htp : t ≤ p) (hpz : celS C s p j ≠ 0) (ha : aloneB R C p j t s = true) (ho : okS (swS R C p t s) = true) :
    Fin2 R C M (swS R C p t s) ∧ HInv R C (mxC C (swS R C p t s).1) q t j ∧ celS C (swS R C p t s) t j ≠ 0 ∧ ∀ i, t < i → i < R → celS C (swS R C p t s) i j = 0 := by
  by_cases e : p = t
  · have es : swS R C p t s = s := by unfold swS; rw [if_neg (fun h => h e)]
    rw [es]
    subst e
    exact ⟨hF, hI, hpz, fun i h1 h2 => aloneB_says ha h2 (by omega) (by omega)⟩
  · have es : swS R C p t s = op2 R C 0 p t 0 s := by unfold swS; rw [if_pos e]
    rw [es] at ho ⊢
    obtain ⟨k1, k2⟩ := hF.op (.inl rfl) hp (by omega) (fun _ => e) (by decide) ho
    refine ⟨k1, (hI.opSwap htp hp (Nat.le_refl _) (by omega)).congr fun i b hi hb => k2 i b hi (by omega), ?_, fun i h1 h2 => ?_⟩
    · rw [k2 t j (by omega) hj]
      unfold opX
      rw [if_pos rfl, if_neg (Ne.symm e), if_pos rfl]; exact hpz
    · rw [k2 i j h2 hj]
      unfold opX
      rw [if_pos rfl]
      by_cases e2 : i = p
      · rw [if_pos e2]; exact aloneB_says ha (by omega) (Nat.le_refl _) (Ne.symm e)
      · rw [if_neg e2, if_neg (by omega)]; exact aloneB_says ha h2 (by omega) e2
theorem ngS_says (hF : Fin2 R C M s) (hI : HInv R C (mxC C s.1) q t j) (hj : j < C) (ht : t < R) (hpz : celS C s t j ≠ 0) (hz : ∀ i, t < i → i < R → celS C s i j = 0) (ho : okS (ngS R C j t s) = true) :
    Fin2 R C M (ngS R C j t s) ∧ HInv R C (mxC C (ngS R C j t s).1) q t j ∧ 0 < celS C (ngS R C j t s) t j ∧ ∀ i, t < i → i < R → celS C (ngS R C j t s) i j = 0 := by
  by_cases e : celS C s t j < 0
  · have es : ngS R C j t s = op2 R C 1 t t 0 s := by unfold ngS; rw [if_pos e]
    rw [es] at ho ⊢
    obtain ⟨k1, k2⟩ := hF.op (.inr (.inl rfl)) ht ht (fun h => absurd rfl h) (by decide) ho
    refine ⟨k1, (hI.opNeg (z := 0) (J := t) (Nat.le_refl _) ht).congr fun i b hi hb => k2 i b hi (by omega), ?_, fun i h1 h2 => ?_⟩
    · rw [k2 t j ht hj]
      unfold opX
      rw [if_neg (by decide), if_pos rfl, if_pos rfl]
      change 0 < - celS C s t j
      omega
    · rw [k2 i j h2 hj]
      unfold opX
      rw [if_neg (by decide), if_pos rfl, if_neg (by omega)]; exact hz i h1 h2
  · have es : ngS R C j t s = s := by unfold ngS; rw [if_neg e]
    rw [es]
    exact ⟨hF, hI, by omega, hz⟩
theorem upF_says (hF : Fin2 R C M s) (hI : HInv R C (mxC C s.1) q t j) (hj : j < C) (ht : t < R) (hp : 0 < celS C s t j) : ∀ n, n ≤ t → okS (upF R C j t s n) = true →
    Fin2 R C M (upF R C j t s n) ∧ HInv R C (mxC C (upF R C j t s n).1) q t j ∧ (∀ i, n ≤ i → i < R → celS C (upF R C j t s n) i j = celS C s i j) ∧ ∀ i, i < n → 0 ≤ celS C (upF R C j t s n) i j ∧ celS C (upF R C j t s n) i j < celS C s t j
  | 0, _, _ => ⟨hF, hI, fun _ _ _ => rfl, fun i hi => by omega⟩
  | n + 1, hn, ho => by
    obtain ⟨g1, g2, g3, g4⟩ := upF_says hF hI hj ht hp n (by omega) (okS_back (upF_siz hF.siz n) (by omega) ht ho)
    have et := g3 t (by omega) ht
    have hy : celS C (upF R C j t s n) t j ≠ 0 := by rw [et]; omega
    obtain ⟨k1, k2⟩ := g1.op (.inr (.inr rfl)) (by omega : n < R) ht (fun _ => by omega) (quot_num (g1.num n j) hy) ho
    have ql := quot_left (x := celS C (upF R C j t s n) n j) hy
    have ce : ∀ i b, i < R → b < C → i ≠ n → celS C (upF R C j t s (n + 1)) i b = celS C (upF R C j t s n) i b := fun i b hi hb hne => by
      refine (k2 i b hi hb).trans ?_
      unfold opX
      rw [if_neg (by decide), if_neg (by decide), if_neg hne]; rfl
    have cn : celS C (upF R C j t s (n + 1)) n j = celS C (upF R C j t s n) n j % celS C (upF R C j t s n) t j := by
      refine (k2 n j (by omega) hj).trans ?_
      rw [← ql.1]
      unfold opX
      rw [if_neg (by decide), if_neg (by decide), if_pos rfl]; rfl
    refine ⟨k1, (g2.opAdd (Nat.le_refl _) ht).congr fun i b hi hb => k2 i b hi (by omega), fun i h1 h2 => by rw [ce i j h2 hj (by omega)]; exact g3 i (by omega) h2, fun i hi => ?_⟩
    rcases Nat.lt_or_ge i n with h4 | h4
    · rw [ce i j (by omega) hj (by omega)]; exact g4 i h4
    · obtain rfl : i = n := by omega
      rw [cn]
      rw [et] at ql ⊢
      omega
def pvS (R C j t p : Nat) (s : HSt) : HSt := upF R C j t (ngS R C j t (swS R C p t s)) t
def colF (R C j t : Nat) (s : HSt) : Option (HSt × Nat) :=
  if leastS R C j t s < 0 then some (s, t)
  else match loopF R C j t ((celS C s (leastS R C j t s).toNat j).natAbs + 1) s (leastS R C j t s).toNat with
    | none => none
    | some (s1, p) => if okS (pvS R C j t p s1) = true then some (pvS R C j t p s1, t + 1) else none
theorem colF_says {s' : HSt} {t' : Nat} (hF : Fin2 R C M s) (hI : HInv R C (mxC C s.1) q t j) (hj : j < C) (ht : t < R) (h : colF R C j t s = some (s', t')) : Fin2 R C M s' ∧ ∃ q', HInv R C (mxC C s'.1) q' t' (j + 1) := by
  unfold colF at h
  rcases leastS_says R C j t s (by omega) with ⟨h1, h2⟩ | ⟨p, hL⟩
  · rw [if_pos (by omega)] at h
    cases h
    exact ⟨hF, q, hI.skip hj h2⟩
  · have e : (leastS R C j t s).toNat = p := by have := hL.1; omega
    rw [if_neg (by have := hL.1; omega), e] at h
    cases hl : loopF R C j t ((celS C s p j).natAbs + 1) s p with
    | none => rw [hl] at h; cases h
    | some z =>
      obtain ⟨s1, p1⟩ := z
      rw [hl] at h
      dsimp only at h
      obtain ⟨f1, i1, a1, a2, a3, a4⟩ := loopF_says hj _ s p hF hI hL.2.2.1 hL.2.1 hL.2.2.2.1 hl
      by_cases ho : okS (pvS R C j t p1 s1) = true
      · rw [if_pos ho] at h
        cases h
        have o2 := upF_back (ngS_siz (swS_siz f1.siz)) ht t (by omega) ho
        have o1 := ngS_back (swS_siz f1.siz) ht o2
        obtain ⟨f2, i2, b1, b2⟩ := swS_says f1 i1 hj a1 a2 a3 a4 o1
        obtain ⟨f3, i3, c1, c2⟩ := ngS_says f2 i2 hj ht b1 b2 o2
        obtain ⟨f4, i4, d1, d2⟩ := upF_says f3 i3 hj ht c1 t (Nat.le_refl _) ho
        have et := d1 t (Nat.le_refl _) ht
        refine ⟨f4, _, i4.put hj ht (by change 0 < celS C (pvS R C j t p1 s1) t j; unfold pvS; rw [et]; exact c1) (fun i h1 h2 => (d1 i (by omega) h2).trans (c2 i h1 h2)) fun i hi => ?_⟩
        have := d2 i hi
        refine ⟨this.1, ?_⟩
        change celS C (upF R C j t (ngS R C j t (swS R C p1 t s1)) t) i j < celS C (upF R C j t (ngS R C j t (swS R C p1 t s1)) t) t j
        rw [et]; exact this.2
      · rw [if_neg ho] at h; cases h
end
def allF (R C : Nat) : Nat → Nat → Nat → HSt → Option HSt
  | 0, _, _, s => some s
  | n + 1, j, t, s => if t < R then (match colF R C j t s with | none => none | some (s', t') => allF R C n (j + 1) t' s') else some s
theorem allF_says {R C : Nat} {M : Mx} : ∀ (n j t : Nat) (s : HSt) {s' : HSt} {q : Nat → Nat}, j + n = C → Fin2 R C M s → HInv R C (mxC C s.1) q t j → allF R C n j t s = some s' → Fin2 R C M s' ∧ ∃ q' t', HerP R C (mxC C s'.1) q' t'
  | 0, j, t, s, s', q, hn, hF, hI, h => by
    cases h
    exact ⟨hF, q, t, hI.done (.inr (by omega))⟩
  | n + 1, j, t, s, s', q, hn, hF, hI, h => by
    by_cases ht : t < R
    · have e : allF R C (n + 1) j t s = (match colF R C j t s with | none => none | some (s', t') => allF R C n (j + 1) t' s') := if_pos ht
      rw [e] at h
      cases hc : colF R C j t s with
      | none => rw [hc] at h; cases h
      | some z =>
        obtain ⟨s1, t1⟩ := z
        rw [hc] at h
        obtain ⟨f1, q1, i1⟩ := colF_says hF hI (by omega) ht hc
        exact allF_says n (j + 1) t1 s1 (by omega) f1 i1 h
    · have e : allF R C (n + 1) j t s = some s := if_neg ht
      rw [e] at h
      cases h
      have := hI.le
      exact ⟨hF, q, t, hI.done (.inl (by omega))⟩
def herX (R C : Nat) (xs : List Int) : Option HSt := allF R C C 0 0 (xs, idL R R)
theorem herX_says {R C : Nat} {xs : List Int} {s : HSt} (hl : xs.length = R * C) (hn : nums xs = true) (h : herX R C xs = some s) : Fin2 R C (mxC C xs) s ∧ ∃ q t, HerP R C (mxC C s.1) q t := by
  refine allF_says C 0 0 (xs, idL R R) (q := fun _ => 0) (by omega) ⟨⟨hl, idL_length R R, MkOr.of_nums hn, MkOr.of_nums (idL_nums R)⟩, ?_, ?_⟩ (HInv.start _ _ _ _) h
  · unfold okS; rw [hn, idL_nums]; rfl
  · exact (Acc.start R C (mxC C xs)).congr (mxL_idL R).symm fun _ _ _ _ => rfl
theorem herX_uniq {R C : Nat} {xs ys : List Int} {s s' : HSt} (hl : xs.length = R * C) (hn : nums xs = true) (h : herX R C xs = some s) (hl' : ys.length = R * C) (hn' : nums ys = true) (h' : herX R C ys = some s') (h1 : SubL R R C (mxC C xs) (mxC C ys)) (h2 : SubL R R C (mxC C ys) (mxC C xs)) : s.1 = s'.1 := by
  obtain ⟨f1, q, t, a1⟩ := herX_says hl hn h
  obtain ⟨f2, q', t', a2⟩ := herX_says hl' hn' h'
  obtain ⟨-, e⟩ := f1.acc.uniq f2.acc a1 a2 h1 h2
  have e1 : s.1 = tab R C (mxC C s'.1) := tab_ext f1.siz.l1 fun i j hi hj => e i j hi hj
  have e2 : s'.1 = tab R C (mxC C s'.1) := tab_ext f2.siz.l1 fun i j hi hj => rfl
  rw [e1, ← e2]
end Go.Proofs.Ytpelnfenfeoeeaa
end

section
/-
  Plain mathematics of chapter 12: a Hermite form is its own; what the law of Hermite forms says. Nothing of a program is used.
-/
namespace Go.Proofs.Ytpelnfenfeoeeaa
theorem opL_none {I J C : Nat} {xs : List Int} (h : nums xs = true) : opL 2 I J 0 C xs = xs := by
  refine list_getD (opL_length _ _ _ _ _ _) fun p hp => ?_
  rw [opL_length] at hp
  rw [opL_getD hp]
  unfold opAt
  rw [if_neg (by decide), if_neg (by decide)]
  split
  · rw [mulB_num (nums_def h _) (by decide), Int.mul_zero, fitB_num (by decide), addB_num (nums_def h _) (by decide), Int.add_zero, fitB_num (nums_def h _)]
  · rfl
theorem op2_none {R C I J : Nat} {s : HSt} (h : okS s = true) : op2 R C 2 I J 0 s = s := by
  obtain ⟨a, b⟩ := okS_and h
  unfold op2
  rw [opL_none a, opL_none b]
section
variable {R C j t : Nat} {s : HSt}
theorem upF_fix (ho : okS s = true) (h : ∀ i, i < t → 0 ≤ celS C s i j ∧ celS C s i j < celS C s t j) : ∀ n, n ≤ t → upF R C j t s n = s
  | 0, _ => rfl
  | n + 1, hn => by
    have e := upF_fix ho h n (by omega)
    show op2 R C 2 n t (-(celS C (upF R C j t s n) n j / celS C (upF R C j t s n) t j)) (upF R C j t s n) = s
    rw [e]
    have := h n (by omega)
    rw [Int.ediv_eq_zero_of_lt this.1 this.2, Int.neg_zero, op2_none ho]
theorem colF_fix (ht : t < R) (ho : okS s = true) (hp : 0 < celS C s t j) (hz : ∀ i, t < i → i < R → celS C s i j = 0) (ha : ∀ i, i < t → 0 ≤ celS C s i j ∧ celS C s i j < celS C s t j) : colF R C j t s = some (s, t + 1) := by
  have hl : leastS R C j t s = (t : Int) := by
    rcases leastS_says R C j t s (by omega) with ⟨-, h2⟩ | ⟨p, h1, h2, h3, h4, -⟩
    · have := h2 t (Nat.le_refl _) ht; omega
    · rcases Nat.lt_or_ge t p with h5 | h5
      · exact absurd (hz p h5 h3) h4
      · rw [h1, show p = t by omega]
  have al : aloneB R C t j t s = true := aloneB_true fun i hi hti hne => hz i (by omega) hi
  have e1 : pvS R C j t t s = s := by
    have a1 : swS R C t t s = s := by unfold swS; rw [if_neg (fun h => h rfl)]
    have a2 : ngS R C j t s = s := by unfold ngS; rw [if_neg (by omega)]
    unfold pvS
    rw [a1, a2]
    exact upF_fix ho ha t (Nat.le_refl _)
  unfold colF
  rw [if_neg (by omega), hl, show ((t : Int)).toNat = t from rfl, loopF_alone (by omega) al]
  dsimp only
  rw [e1, if_pos ho]
theorem colF_skip (ht : t < R) (hz : ∀ i, t ≤ i → i < R → celS C s i j = 0) : colF R C j t s = some (s, t) := by
  unfold colF
  rcases leastS_says R C j t s (by omega) with ⟨h1, -⟩ | ⟨p, h1, h2, h3, h4, -⟩
  · rw [if_pos (by omega)]
  · exact absurd (hz p h2 h3) h4
theorem allF_fix {q : Nat → Nat} {T : Nat} (ho : okS s = true) (h : HerP R C (mxC C s.1) q T) : ∀ n j t, j + n = C → t ≤ T → (∀ k, k < t → q k < j) → (t < T → j ≤ q t) → allF R C n j t s = some s
  | 0, _, _, _, _, _, _ => rfl
  | n + 1, j, t, hn, ht, h1, h2 => by
    by_cases hR : t < R
    · have e : allF R C (n + 1) j t s = (match colF R C j t s with | none => none | some (s', t') => allF R C n (j + 1) t' s') := if_pos hR
      rw [e]
      by_cases hq : t < T ∧ q t = j
      · obtain ⟨hT, hq⟩ := hq
        have a1 : 0 < celS C s t j := by have := h.pos t hT; rw [hq] at this; exact this
        have a2 : ∀ i, t < i → i < R → celS C s i j = 0 := fun i hi hiR => by
          rcases Nat.lt_or_ge i T with h5 | h5
          · exact h.left i j h5 (by have := h.inc t i hi h5; omega)
          · exact h.rest i j h5 hiR (by omega)
        have a3 : ∀ i, i < t → 0 ≤ celS C s i j ∧ celS C s i j < celS C s t j := fun i hi => by have := h.above t i hT hi; rw [hq] at this; exact this
        rw [colF_fix hR ho a1 a2 a3]
        refine allF_fix ho h n (j + 1) (t + 1) (by omega) hT (fun k hk => ?_) fun hk => ?_
        · rcases Nat.lt_or_ge k t with h5 | h5
          · have := h1 k h5; omega
          · obtain rfl : k = t := by omega
            omega
        · have := h.inc t (t + 1) (by omega) hk; omega
      · have a2 : ∀ i, t ≤ i → i < R → celS C s i j = 0 := fun i hi hiR => by
          rcases Nat.lt_or_ge i T with h5 | h5
          · refine h.left i j h5 ?_
            have a := h2 (by omega)
            have b := h.mono hi h5
            have : q t ≠ j := fun e => hq ⟨by omega, e⟩
            omega
          · exact h.rest i j h5 hiR (by omega)
        rw [colF_skip hR a2]
        refine allF_fix ho h n (j + 1) t (by omega) ht (fun k hk => by have := h1 k hk; omega) fun hk => ?_
        have a := h2 hk
        have : q t ≠ j := fun e => hq ⟨hk, e⟩
        omega
    · exact if_neg hR
end
theorem herX_fix {R C : Nat} {xs : List Int} {q : Nat → Nat} {T : Nat} (hn : nums xs = true) (h : HerP R C (mxC C xs) q T) : herX R C xs = some (xs, idL R R) :=
  allF_fix (s := (xs, idL R R)) (by unfold okS; rw [hn, idL_nums]; rfl) h C 0 0 (by omega) (Nat.zero_le _) (fun k hk => by omega) fun _ => Nat.zero_le _
theorem herX_prod {R C : Nat} {xs : List Int} {s : HSt} (hl : xs.length = R * C) (hn : nums xs = true) (h : herX R C xs = some s) : mulL R R C s.2 xs = s.1 := by
  obtain ⟨f, -⟩ := herX_says hl hn h
  have e1 : s.1 = tab R C (mxC C s.1) := tab_ext f.siz.l1 fun i j hi hj => rfl
  rw [e1]
  refine tab_ext (mulL_length _ _ _ _ _) fun i j hi hj => ?_
  rw [mulL_at R R C _ _ hi hj, dot_sum]
  exact f.acc.mul i j hi hj
theorem herX_mix {R C : Nat} {xs us : List Int} {s s' : HSt} (hl : xs.length = R * C) (hn : nums xs = true) (h : herX R C xs = some s) (hu : det R (mxC R us) = 1 ∨ det R (mxC R us) = -1) (hn' : nums (mulL R R C us xs) = true) (h' : herX R C (mulL R R C us xs) = some s') : s'.1 = s.1 := by
  have e : ∀ i j, i < R → j < C → mxC C (mulL R R C us xs) i j = mulX R (mxC R us) (mxC C xs) i j := fun i j hi hj => by
    show (mulL R R C us xs).getD (i * C + j) 0 = _
    rw [mulL_at R R C _ _ hi hj, dot_sum]; rfl
  have s1 : SubL R R C (mxC C (mulL R R C us xs)) (mxC C xs) := (SubL.congr e).trans (SubL.mul R C _ _)
  have s2 : SubL R R C (mxC C xs) (mxC C (mulL R R C us xs)) := (SubL.unmul hu).trans (SubL.congr fun i j hi hj => (e i j hi hj).symm)
  exact herX_uniq (mulL_length _ _ _ _ _) hn' h' hl hn h s1 s2
end Go.Proofs.Ytpelnfenfeoeeaa
end

section
/-
  Chapter 12: what a walk of HermiteForm needs of its steps. Nothing of a program is used.
-/
namespace Go.Proofs.Ytpelnfenfeoeeaa
open Go.RowKit
theorem mulB_neg {x : Int} (h : NumP x) : NumP (mulB x (-1)) := by
  have h' := h
  unfold NumP at h'
  rw [mulB_num h (show NumP (-1) by unfold NumP; omega), fitB_num (show NumP (x * -1) by unfold NumP; omega)]
  unfold NumP
  omega
theorem celS_other {R C I J i j : Nat} {z : Int} {s : HSt} (h : Siz R C s) (hi : i < R) (hj : j < C) (hne : i ≠ I) : celS C (op2 R C 2 I J z s) i j = celS C s i j := by
  have hp : i * C + j < s.1.length := by rw [h.l1]; exact idx_lt hi hj
  show (opL 2 I J z C s.1).getD (i * C + j) 0 = _
  rw [opL_getD hp]
  unfold opAt
  rw [if_neg (by decide), if_neg (by decide), idx_div hj, if_neg hne]
  rfl
theorem ok_plain {R C I J : Nat} {k z : Int} {s : HSt} (hk : k = 0 ∨ k = 1) (ho : okS s = true) : okS (op2 R C k I J z s) = true := by
  obtain ⟨a, b⟩ := okS_and ho
  have key : ∀ (D : Nat) (xs : List Int), nums xs = true → nums (opL k I J z D xs) = true := fun D xs hx => nums_true fun p hp => by
    rw [opL_length] at hp
    rw [opL_getD hp]
    unfold opAt
    rcases hk with rfl | rfl
    · rw [if_pos rfl]
      split
      · exact nums_def hx _
      · split
        · exact nums_def hx _
        · exact nums_def hx _
    · rw [if_neg (by decide), if_pos rfl]
      split
      · exact mulB_neg (nums_def hx _)
      · exact nums_def hx _
  unfold okS
  show (nums (opL k I J z C s.1) && nums (opL k I J z R s.2)) = true
  rw [key C _ a, key R _ b]; rfl
theorem ok_sw {R C p t : Nat} {s : HSt} (ho : okS s = true) : okS (swS R C p t s) = true := by
  unfold swS; split
  · exact ok_plain (.inl rfl) ho
  · exact ho
theorem ok_ng {R C j t : Nat} {s : HSt} (ho : okS s = true) : okS (ngS R C j t s) = true := by
  unfold ngS; split
  · exact ok_plain (.inr rfl) ho
  · exact ho
section
variable {R C j t p : Nat} {s : HSt}
theorem rndF_keep (h : Siz R C s) (hj : j < C) : ∀ n, t + n ≤ R → (p < R → celS C (rndF R C p j t s n) p j = celS C s p j) ∧ ∀ i, i < R → t + n ≤ i → celS C (rndF R C p j t s n) i j = celS C s i j
  | 0, _ => ⟨fun _ => rfl, fun _ _ _ => rfl⟩
  | n + 1, hn => by
    obtain ⟨g1, g2⟩ := rndF_keep h hj n (by omega)
    have hs := rndF_siz (p := p) (j := j) (t := t) h n
    by_cases hc : t + n ≠ p ∧ celS C (rndF R C p j t s n) (t + n) j ≠ 0
    · rw [show rndF R C p j t s (n + 1) = op2 R C 2 (t + n) p (-(celS C (rndF R C p j t s n) (t + n) j / celS C (rndF R C p j t s n) p j)) (rndF R C p j t s n) from if_pos hc]
      exact ⟨fun hp => (celS_other hs hp hj (fun e => hc.1 e.symm)).trans (g1 hp), fun i hi h2 => (celS_other hs hi hj (by omega)).trans (g2 i hi (by omega))⟩
    · rw [show rndF R C p j t s (n + 1) = rndF R C p j t s n from if_neg hc]
      exact ⟨g1, fun i hi h2 => g2 i hi (by omega)⟩
theorem rnd_skip {n : Nat} (h : Siz R C s) (hj : j < C) (hn : t + n < R) (hc : t + n = p ∨ celS C s (t + n) j = 0) : rndF R C p j t s (n + 1) = rndF R C p j t s n := by
  have e := (rndF_keep (p := p) h hj n (by omega)).2 (t + n) hn (Nat.le_refl _)
  show (if _ then _ else _) = _
  rw [if_neg]
  rw [e]
  rintro ⟨h1, h2⟩
  rcases hc with h3 | h3
  · exact h1 h3
  · exact h2 h3
theorem rnd_do {n : Nat} (h : Siz R C s) (hj : j < C) (hp : p < R) (hn : t + n < R) (h1 : t + n ≠ p) (h2 : celS C s (t + n) j ≠ 0) : rndF R C p j t s (n + 1) = op2 R C 2 (t + n) p (-(celS C s (t + n) j / celS C s p j)) (rndF R C p j t s n) := by
  have e := (rndF_keep (p := p) (t := t) h hj n (by omega)).2 (t + n) hn (Nat.le_refl _)
  have e2 := (rndF_keep (p := p) (t := t) h hj n (by omega)).1 hp
  show (if _ then _ else _) = _
  rw [if_pos ⟨h1, by rw [e]; exact h2⟩, e, e2]
theorem upF_keep (h : Siz R C s) (hj : j < C) (ht : t < R) : ∀ n, n ≤ t → celS C (upF R C j t s n) t j = celS C s t j ∧ ∀ i, i < R → n ≤ i → celS C (upF R C j t s n) i j = celS C s i j
  | 0, _ => ⟨rfl, fun _ _ _ => rfl⟩
  | n + 1, hn => by
    obtain ⟨g1, g2⟩ := upF_keep h hj ht n (by omega)
    have hs := upF_siz (j := j) (t := t) h n
    exact ⟨(celS_other hs ht hj (by omega)).trans g1, fun i hi h2 => (celS_other hs hi hj (by omega)).trans (g2 i hi (by omega))⟩
theorem up_do {n : Nat} (h : Siz R C s) (hj : j < C) (ht : t < R) (hn : n < t) : upF R C j t s (n + 1) = op2 R C 2 n t (-(celS C s n j / celS C s t j)) (upF R C j t s n) := by
  obtain ⟨g1, g2⟩ := upF_keep h hj ht n (by omega)
  show op2 R C 2 n t (-(celS C (upF R C j t s n) n j / celS C (upF R C j t s n) t j)) _ = _
  rw [g1, g2 n (by omega) (Nat.le_refl _)]
theorem all_full {n : Nat} (h : ¬ t < R) : allF R C n j t s = some s := by
  cases n with
  | zero => rfl
  | succ n => exact if_neg h
theorem all_none {n : Nat} (h : t < R) (hc : colF R C j t s = none) : allF R C (n + 1) j t s = none := by
  show (if _ then _ else _) = _
  rw [if_pos h, hc]
theorem all_some {n : Nat} {s' : HSt} {t' : Nat} (h : t < R) (hc : colF R C j t s = some (s', t')) : allF R C (n + 1) j t s = allF R C n (j + 1) t' s' := by
  show (if _ then _ else _) = _
  rw [if_pos h, hc]
theorem col_skip (h : leastS R C j t s = -1) : colF R C j t s = some (s, t) := if_pos (by omega)
theorem col_go (h : leastS R C j t s = (p : Int)) : colF R C j t s = match loopF R C j t ((celS C s p j).natAbs + 1) s p with
    | none => none
    | some (s1, p) => if okS (pvS R C j t p s1) = true then some (pvS R C j t p s1, t + 1) else none := by
  unfold colF
  rw [if_neg (by omega), h, Int.toNat_natCast]
  first | done | rfl
theorem col_none (h : leastS R C j t s = (p : Int)) (hl : loopF R C j t ((celS C s p j).natAbs + 1) s p = none) : colF R C j t s = none := by rw [col_go h, hl]
theorem col_bad {s1 : HSt} {p1 : Nat} (h : leastS R C j t s = (p : Int)) (hl : loopF R C j t ((celS C s p j).natAbs + 1) s p = some (s1, p1)) (ho : okS (pvS R C j t p1 s1) = false) : colF R C j t s = none := by
  rw [col_go h, hl]
  show (if _ then _ else _) = _
  rw [if_neg (by rw [ho]; decide)]
theorem col_ok {s1 : HSt} {p1 : Nat} (h : leastS R C j t s = (p : Int)) (hl : loopF R C j t ((celS C s p j).natAbs + 1) s p = some (s1, p1)) (ho : okS (pvS R C j t p1 s1) = true) : colF R C j t s = some (pvS R C j t p1 s1, t + 1) := by
  rw [col_go h, hl]
  show (if _ then _ else _) = _
  rw [if_pos ho]
end
theorem herX_start {R C : Nat} {xs : List Int} (hl : xs.length = R * C) (hn : nums xs = true) : Fin2 R C (mxC C xs) (xs, idL R R) := by
  refine ⟨⟨hl, idL_length R R, MkOr.of_nums hn, MkOr.of_nums (idL_nums R)⟩, ?_, ?_⟩
  · unfold okS; rw [hn, idL_nums]; rfl
  · exact (Acc.start R C (mxC C xs)).congr (mxL_idL R).symm fun _ _ _ _ => rfl
end Go.Proofs.Ytpelnfenfeoeeaa
end

section
/-
  A region that draws its order and stores, at its end, into cells that it loads: a condition on the world is shown again behind each operation but those that come after all loads. No function of the program is named.
-/
namespace Go.Proofs.Ytpelnfenfeoeeaa
section
variable {P : Program} {ops : Array Oper} {Q : Exit → Act → World → Prop} {md : Region.Mode} {S : World → Prop} {T : Nat → Bool}
def anc (md : Region.Mode) (ops : Array Oper) (i : Nat) : Nat → Nat → Bool
  | 0, _ => false
  | f + 1, j => match ops[j]? with
    | some o => o.after.any fun e => Region.binds md e && (e.on == i || anc md ops i f e.on)
    | none => false
def closedB (md : Region.Mode) (ops : Array Oper) (listed : Array Bool) : Bool :=
  (List.range ops.size).all fun j => match ops[j]? with
    | some o => !(listed.getD j false) || o.after.all fun e => !(Region.binds md e) || listed.getD e.on false
    | none => true
def Closed (md : Region.Mode) (ops : Array Oper) (listed : Array Bool) : Prop := ∀ (j : Nat) (o : Oper), ops[j]? = some o → listed.getD j false = true → ∀ e ∈ o.after, Region.binds md e = true → listed.getD e.on false = true
theorem closed_of {listed : Array Bool} (h : closedB md ops listed = true) : Closed md ops listed := fun j o ho hl e he hb => by
  unfold closedB at h
  rw [List.all_eq_true] at h
  have hj : j < ops.size := by
    rcases Nat.lt_or_ge j ops.size with h1 | h1
    · exact h1
    · rw [Array.getElem?_eq_none h1] at ho; cases ho
  have h1 := h j (List.mem_range.mpr hj)
  rw [ho] at h1
  dsimp only at h1
  rw [hl] at h1
  simp only [Bool.not_true, Bool.false_or] at h1
  rw [Array.all_eq_true_iff_forall_mem] at h1
  have h2 := h1 e he
  rw [hb] at h2
  simpa using h2
theorem Closed.set {listed : Array Bool} {i : Nat} (h : Closed md ops listed) (hr : i ∈ Region.ready md ops listed) : Closed md ops (listed.setIfInBounds i true) := fun j o ho hl e he hb => by
  by_cases hji : i = j
  · subst hji
    obtain ⟨-, o', ho', hall⟩ := mem_ready.1 hr
    rw [ho] at ho'
    cases ho'
    exact getD_set_true (hall e he hb)
  · rw [getD_set_ne false hji] at hl
    exact getD_set_true (h j o ho hl e he hb)
theorem anc_unlisted {listed : Array Bool} {i : Nat} (h : Closed md ops listed) (hi : listed.getD i false = false) : ∀ (f j : Nat), anc md ops i f j = true → listed.getD j false = false
  | 0, j, ha => by cases ha
  | f + 1, j, ha => by
    unfold anc at ha
    cases ho : ops[j]? with
    | none => rw [ho] at ha; cases ha
    | some o =>
      rw [ho] at ha
      dsimp only at ha
      rw [Array.any_eq_true'] at ha
      obtain ⟨e, he, hb⟩ := ha
      rw [Bool.and_eq_true, Bool.or_eq_true] at hb
      cases hl : listed.getD j false with
      | false => rfl
      | true =>
        have h1 := h j o ho hl e he hb.1
        rcases hb.2 with h2 | h2
        · have e2 : e.on = i := by simpa using h2
          rw [e2, hi] at h1
          cases h1
        · rw [anc_unlisted h hi f e.on h2] at h1
          cases h1
theorem anc_not_ready {listed : Array Bool} {i j f : Nat} (h : Closed md ops listed) (hi : listed.getD i false = false) (ha : anc md ops i f j = true) : j ∉ Region.ready md ops listed := fun hr => by
  have h1 := h.set hr
  obtain ⟨-, o, ho, hall⟩ := mem_ready.1 hr
  cases f with
  | zero => cases ha
  | succ f =>
    unfold anc at ha
    rw [ho] at ha
    dsimp only at ha
    rw [Array.any_eq_true'] at ha
    obtain ⟨e, he, hb⟩ := ha
    rw [Bool.and_eq_true, Bool.or_eq_true] at hb
    have h2 := hall e he hb.1
    rcases hb.2 with h3 | h3
    · have e2 : e.on = i := by simpa using h3
      rw [e2, hi] at h2
      cases h2
    · rw [anc_unlisted h hi f e.on h3] at h2
      cases h2
def wpAnyT (P : Program) (md : Region.Mode) (ops : Array Oper) (Q : Exit → Act → World → Prop) (S : World → Prop) (T : Nat → Bool) : Nat → Array Bool → Act → World → Prop
  | 0, listed, a, w => Region.ready md ops listed = [] ∧ Q .normal a w
  | fuel + 1, listed, a, w =>
    (Region.ready md ops listed = [] → Q .normal a w) ∧
    ∀ i ∈ Region.ready md ops listed, wpOp P ops Q i (fun a' w' => (T i = false → S w') ∧ wpAnyT P md ops Q S T fuel (listed.setIfInBounds i true) a' w') a w
theorem wpAny_of_T : ∀ (fuel : Nat) (listed : Array Bool) (a : Act) (w : World), wpAnyT P md ops Q S T fuel listed a w → wpAny P md ops Q fuel listed a w
  | 0, _, _, _, h => h
  | fuel + 1, _, _, _, h => ⟨h.1, fun i hi => wpOp_mono (fun a' w' h' => wpAny_of_T fuel _ a' w' h'.2) (h.2 i hi)⟩
theorem getD_swap {listed : Array Bool} {i : Nat} (h : listed.getD i true = false) : listed.getD i false = false := by
  rcases Nat.lt_or_ge i listed.size with h' | h'
  · simp [h'] at h ⊢; exact h
  · simp [Array.getElem?_eq_none h'] at h
theorem wpAnyT_first {i : Nat} {oi : Oper} {v : Value} (hi : ops[i]? = some oi) (hsel : ∀ (j : Nat) (o : Oper) cs b, ops[j]? = some o → o.op ≠ .select cs b)
    (hQ : ∀ c a w, Q (.panic c) (a.put oi.dst v) w → Q (.panic c) a w) (hT : ∀ j, T j = true → anc md ops i ops.size j = true) :
    ∀ (fuel : Nat) (listed : Array Bool) (a : Act) (w : World), Closed md ops listed →
      (∀ j oj, ops[j]? = some oj → j ≠ i → listed.getD j true = false → (∀ e ∈ oj.after, Region.binds md e = true → e.on ≠ i) → oi.apart ops oj = true) →
      i ∈ Region.ready md ops listed → YieldsIf P ops S oi v a → S w →
      wpAnyT P md ops Q S T fuel (listed.setIfInBounds i true) (a.put oi.dst v) w → wpAnyT P md ops Q S T (fuel + 1) listed a w := by
  intro fuel
  induction fuel with
  | zero =>
    intro listed a w _ _ hr hy hS H
    refine ⟨fun h => (by rw [h] at hr; cases hr), fun j hj => ?_⟩
    by_cases hji : j = i
    · subst hji; exact hy.wpOp hi hS ⟨fun _ => hS, H⟩
    · have := ready_mono hj hji
      rw [H.1] at this
      cases this
  | succ fuel ih =>
    intro listed a w hcl hfree hr hy hS H
    refine ⟨fun h => (by rw [h] at hr; cases hr), fun j hj => ?_⟩
    by_cases hji : j = i
    · subst hji; exact hy.wpOp hi hS ⟨fun _ => hS, H⟩
    · have h1 := H.2 j (ready_mono hj hji)
      have hli := getD_swap (mem_ready.1 hr).1
      have hTj : T j = false := by
        cases hb : T j with
        | false => rfl
        | true => exact absurd hj (anc_not_ready hcl hli (hT j hb))
      obtain ⟨hjun, oj, hoj, hall⟩ := mem_ready.1 hj
      have hnot : ∀ e ∈ oj.after, Region.binds md e = true → e.on ≠ i := fun e he hb heq => by
        have h1 := hall e he hb
        rw [heq, hli] at h1
        cases h1
      have h2 := wpOp_putIf hoj (hfree j oj hoj hji hjun hnot) (fun cs b => hsel i oi cs b hi) (fun cs b => hsel j oj cs b hoj) hQ hy h1
      have hfree' : ∀ k ok, ops[k]? = some ok → k ≠ i → (listed.setIfInBounds j true).getD k true = false →
          (∀ e ∈ ok.after, Region.binds md e = true → e.on ≠ i) → oi.apart ops ok = true := fun k ok hk hki hun hno => by
        refine hfree k ok hk hki ?_ hno
        by_cases hjk : j = k
        · subst hjk; exact hjun
        · rw [getD_set_ne true hjk] at hun; exact hun
      refine wpOp_mono (fun a' w' h3 => ⟨h3.2.1, ih (listed.setIfInBounds j true) a' w' (hcl.set hj) hfree' (ready_mono hr (Ne.symm hji)) h3.1 (h3.2.1 hTj) ?_⟩) h2
      rw [Array.setIfInBounds_comm _ _ hji]
      exact h3.2.2
theorem wpAnyT_take {i : Nat} {oi : Oper} {v : Value} {fuel : Nat} {listed : Array Bool} {a : Act} {w : World} (hi : ops[i]? = some oi)
    (hs : Region.noSelect ops = true) (hf : Region.free md ops listed i = true) (hr : (Region.ready md ops listed).contains i = true) (hcl : closedB md ops listed = true)
    (hT : ∀ j, T j = true → anc md ops i ops.size j = true)
    (hQ : ∀ c a w, Q (.panic c) (a.put oi.dst v) w → Q (.panic c) a w) (hy : YieldsIf P ops S oi v a) (hS : S w)
    (h : wpAnyT P md ops Q S T fuel (listed.setIfInBounds i true) (a.put oi.dst v) w) : wpAnyT P md ops Q S T (fuel + 1) listed a w :=
  wpAnyT_first hi (Region.noSelect_spec hs) hQ hT fuel listed a w (closed_of hcl) (Region.free_spec hi hf) (by simpa using hr) hy hS h
theorem wpAnyT_done {listed : Array Bool} {a : Act} {w : World} (hr : Region.ready md ops listed = []) (h : Q .normal a w) :
    ∀ fuel, wpAnyT P md ops Q S T fuel listed a w
  | 0 => ⟨hr, h⟩
  | _ + 1 => ⟨fun _ => h, by rw [hr]; simp⟩
def AllReadyT (P : Program) (md : Region.Mode) (ops : Array Oper) (Q : Exit → Act → World → Prop) (S : World → Prop) (T : Nat → Bool) (fuel : Nat) (listed : Array Bool) (a : Act) (w : World) (rs : List Nat) : Prop :=
  ∀ i ∈ rs, wpOp P ops Q i (fun a' w' => (T i = false → S w') ∧ wpAnyT P md ops Q S T fuel (listed.setIfInBounds i true) a' w') a w
theorem AllReadyT.nil {fuel : Nat} {listed : Array Bool} {a : Act} {w : World} : AllReadyT P md ops Q S T fuel listed a w [] := fun _ h => by cases h
theorem AllReadyT.cons {fuel : Nat} {listed : Array Bool} {a : Act} {w : World} {i : Nat} {o : Oper} {rs : List Nat} (ho : ops[i]? = some o)
    (h : ∀ K' : Act → World → Prop, Shut (∀ a w, (T i = false → S w) → wpAnyT P md ops Q S T fuel (listed.setIfInBounds i true) a w → K' a w) → if Region.wanted o (yielded ops a.tmps) = true then Oper.wp P o a w K' Q else K' (a.put o.dst undef) w)
    (hs : AllReadyT P md ops Q S T fuel listed a w rs) : AllReadyT P md ops Q S T fuel listed a w (i :: rs) := fun j hj => by
  rcases List.mem_cons.1 hj with rfl | hj
  · exact wpOp_step ho (fun K' hK => h K' (fun a w hS hW => hK a w ⟨hS, hW⟩))
  · exact hs j hj
theorem wpAnyT_ready {rs : List Nat} {fuel : Nat} {listed : Array Bool} {a : Act} {w : World} (hr : Region.ready md ops listed = rs) (hne : rs ≠ [])
    (h : AllReadyT P md ops Q S T fuel listed a w rs) : wpAnyT P md ops Q S T (fuel + 1) listed a w := ⟨fun h0 => absurd (hr ▸ h0) hne, hr ▸ h⟩
end
end Go.Proofs.Ytpelnfenfeoeeaa
end

section
/-
  A region that draws its order and stores, at its end, into cells that it loads: outside of a fence. No function of the program is named.
-/
namespace Go.Proofs.Ytpelnfenfeoeeaa
theorem wp_region_T {P : Program} {id : Nat} {ops : Array Oper} {Q : Exit → Act → World → Prop} {S : World → Prop} {T : Nat → Bool} {a : Act} {w : World} (hm : P.follows .mixedOrders = true) (hS : S w.drew)
    (h : S w.drew → wpAnyT P .any ops Q S T ops.size (Array.replicate ops.size false) a w.drew) : (Code.region id ops true).wp P Q a w := wp_region_any hm (wpAny_of_T _ _ _ _ (h hS))
end Go.Proofs.Ytpelnfenfeoeeaa
end

section
/-
  Plain mathematics of chapter 1: Euclid's steps on triples, their sizes, and what they lead to. Nothing of a program is imported.
-/
namespace Go.Proofs.Ytpelnfenfeoeeaa
theorem tmod_small (x y : Int) (hy : y ≠ 0) : (x.tmod y).natAbs < y.natAbs := by
  rw [Int.natAbs_tmod]; exact Nat.mod_lt _ (by omega)
theorem ediv_of (n d q r : Int) (hd : 0 < d) (h : n = q * d + r) (h0 : 0 ≤ r) (h1 : r < d) : n / d = q ∧ n % d = r :=
  (Int.ediv_emod_unique hd).2 ⟨by rw [h, Int.mul_comm]; omega, h0, h1⟩
theorem tdiv_up (n d : Int) (hd : 0 < d) (h : 0 ≤ n.tmod d) : n / d = n.tdiv d ∧ n % d = n.tmod d := by
  have e := Int.tdiv_mul_add_tmod n d
  have l := tmod_small n d (by omega)
  exact ediv_of n d _ _ hd (by omega) h (by omega)
theorem tdiv_down (n d : Int) (hd : 0 < d) (h : n.tmod d < 0) : n / d = n.tdiv d - 1 ∧ n % d = n.tmod d + d := by
  have e := Int.tdiv_mul_add_tmod n d
  have l := tmod_small n d (by omega)
  exact ediv_of n d _ _ hd (by rw [Int.sub_mul]; omega) (by omega) (by omega)
theorem tdiv_bd (n d : Int) (h1 : -400000000 ≤ n) (h2 : n ≤ 400000000) : -400000000 ≤ n.tdiv d ∧ n.tdiv d ≤ 400000000 := by
  have q : (n.tdiv d).natAbs ≤ n.natAbs := by rw [Int.natAbs_tdiv]; exact Nat.div_le_self _ _
  omega
theorem ediv_bd (n d : Int) (hd : 0 < d) (h1 : -400000000 ≤ n) (h2 : n ≤ 400000000) : -400000001 ≤ n / d ∧ n / d ≤ 400000000 := by
  have b := tdiv_bd n d h1 h2
  rcases Int.lt_or_le (n.tmod d) 0 with h | h
  · have := (tdiv_down n d hd h).1; omega
  · have := (tdiv_up n d hd h).1; omega
theorem mul_ediv_bd (n d : Int) (hd : 0 < d) : n - d < d * (n / d) ∧ d * (n / d) ≤ n := by
  have e := Int.mul_ediv_add_emod n d
  have l := Int.emod_lt_of_pos n hd
  have l' := Int.emod_nonneg n (show d ≠ 0 by omega)
  omega
theorem iDiv_pos (n d : Int) (hd0 : d ≠ 0) (h : 0 ≤ n.tmod d) : n / d = n.tdiv d ∧ n % d = n.tmod d := by
  rcases Int.lt_or_le 0 d with hd | hd
  · exact tdiv_up n d hd h
  · obtain ⟨c, rfl⟩ : ∃ c, d = -c := ⟨-d, by omega⟩
    rw [Int.ediv_neg, Int.emod_neg, Int.tdiv_neg, Int.tmod_neg]
    rw [Int.tmod_neg] at h
    have := tdiv_up n c (by omega) h
    exact ⟨by rw [this.1], this.2⟩
theorem iDiv_neg (n c : Int) (hc : 0 < c) (h : n.tmod (-c) < 0) : n / -c = n.tdiv (-c) + 1 ∧ n % -c = n.tmod (-c) - -c := by
  rw [Int.ediv_neg, Int.emod_neg, Int.tdiv_neg, Int.tmod_neg]
  rw [Int.tmod_neg] at h
  have := tdiv_down n c hc h
  omega
end Go.Proofs.Ytpelnfenfeoeeaa
end

section
/-
  Chapter 1, in the model: |n|.
-/
namespace Go.Proofs.Ytpelnfenfeoeeaa
open Go.RowKit
theorem tdiv_bdw (n d : Int) (h1 : -4000000000000000000 ≤ n) (h2 : n ≤ 4000000000000000000) : -4000000000000000000 ≤ n.tdiv d ∧ n.tdiv d ≤ 4000000000000000000 := by
  have q : (n.tdiv d).natAbs ≤ n.natAbs := by rw [Int.natAbs_tdiv]; exact Nat.div_le_self _ _
  omega
theorem sAbs_p (n : Int) (w : World) (h1 : 0 ≤ n) (h2 : n ≤ 9223372036854775807) :
    Calls Try.prog 100 #[.int .i64 n] w fun e w' => e = .returned (.int .i64 n) ∧ w = w' := by
  go_enter Try.func100, Try.ntmps100
  go_wp2
  all_goals
    go_ret
    exact ⟨ret_int (by omega), rfl⟩
theorem sAbs_n (n : Int) (w : World) (h1 : 0 < n) (h2 : n ≤ 9223372036854775807) :
    Calls Try.prog 100 #[.int .i64 (-n)] w fun e w' => e = .returned (.int .i64 n) ∧ w = w' := by
  go_enter Try.func100, Try.ntmps100
  go_wp2
  all_goals
    go_ret
    exact ⟨ret_int (by omega), rfl⟩
end Go.Proofs.Ytpelnfenfeoeeaa
end
