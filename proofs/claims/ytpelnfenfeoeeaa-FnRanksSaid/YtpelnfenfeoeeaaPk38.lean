/-
  Texts of this seat, joined: ZBDet2 · ZBDet3 · ZBDetL · ZBMatNew · ZBUptoMath · ZBMatS9 · ZBOpDet · ZBMulMath · ZBSameMath · ZBTurnMath · ZBRingMath · ZBLatU · ZBHmF · ZBHmG · ZBHmH · ZBHmU · ZBRowTo · ZBNumMath · ZBNumGcdS · ZBNumAbs · ZBPrimS · ZBAppI · ZBSpnT · ZBEchLaw · ZBEchS · ZBEchT · ZBEchSp · ZBEchB · ZBEchI · ZBEchJ · ZBRowsOwn · ZBWo · ZBDetS · ZBSq · ZBDetO · ZBStepL · ZBLawDet · ZBMix · ZBMixD · ZBEchLw · ZBAcM
-/
import Derived.IntWalk
import Derived.StillTailTactics
import Derived.Test.YtpelnfenfeoeeaaRows
import Derived.WalkKit
import Derived.BigQuiet
import Derived.Deep.QuietTactic
import Derived.Lib.Hide
import Derived.Deep.DeepCutAuto
import Derived.Deep.RegionHeld3
import Derived.Test.YtpelnfenfeoeeaaPk34
import Derived.Test.YtpelnfenfeoeeaaPk35
import Derived.Test.YtpelnfenfeoeeaaPk37

section
/-
  Determinants: expansion along any row and column; turned over; of products; the adjugate. Plain mathematics: nothing of a program is used.
-/
namespace Go.Proofs.Ytpelnfenfeoeeaa
def ej (j c : Nat) : Int := if c = j then 1 else 0
def idX : Mx := fun r c => if r = c then 1 else 0
def trX (A : Mx) : Mx := fun r c => A c r
def mulX (n : Nat) (A B : Mx) : Mx := fun i j => sumN n fun k => A i k * B k j
theorem ej_self (j : Nat) : ej j j = 1 := if_pos rfl
theorem ej_ne {j c : Nat} (h : c ≠ j) : ej j c = 0 := if_neg h
theorem mnr_mnr (A : Mx) (i j : Nat) : mnr (mnr A (i + 1) 0) 0 j = mnr (mnr A 0 (j + 1)) i 0 := by
  funext r c
  show A (skp (i + 1) (skp 0 r)) (skp 0 (skp j c)) = A (skp 0 (skp i r)) (skp (j + 1) (skp 0 c))
  rw [skp_zero, skp_zero, skp_zero, skp_zero, skp_succ, skp_succ]
theorem det_unit (n : Nat) : ∀ (A : Mx) (j : Nat), j < n + 1 → det (n + 1) (stR A 0 (ej j)) = sg j * det n (mnr A 0 j) := by
  induction n with
  | zero =>
    intro A j hj
    obtain rfl : j = 0 := by omega
    rw [det_succ]
    show 0 + sg 0 * stR A 0 (ej 0) 0 0 * 1 = sg 0 * 1
    rw [stR_at, ej_self]
    omega
  | succ n ih =>
    intro A j hj
    rw [det_succ, sumN_first]
    cases j with
    | zero =>
      rw [mnr_stR_same, stR_at, ej_self, sumN_all_zero]
      · rw [Int.add_zero, Int.mul_one]
      · intro i hi
        rw [mnr_stR _ _ _ _ _ (by omega)]
        have e : unskp (i + 1) 0 = 0 := by unfold unskp; rw [if_pos (by omega)]
        have e2 : (fun c => ej 0 (skp 0 c)) = fun _ => 0 := by
          funext c
          exact ej_ne (skp_ne 0 c)
        rw [e, e2, lin_zero (det_lin (n + 1)) (by omega), Int.mul_zero]
    | succ j =>
      rw [stR_at, ej_ne (by omega), Int.mul_zero, Int.zero_mul, Int.zero_add, det_succ, sumN_mul_left]
      refine sumN_congr fun i hi => ?_
      rw [stR_ne _ _ _ _ _ (by omega), mnr_stR _ _ _ _ _ (by omega)]
      have e : unskp (i + 1) 0 = 0 := by unfold unskp; rw [if_pos (by omega)]
      have e2 : (fun c => ej (j + 1) (skp 0 c)) = ej j := by
        funext c
        rw [skp_zero]
        unfold ej
        by_cases h : c = j
        · rw [if_pos h, if_pos (by omega)]
        · rw [if_neg h, if_neg (by omega)]
      rw [e, e2, ih _ j (by omega), mnr_mnr, sg_succ, sg_succ]
      have e3 : mnr A 0 (j + 1) i 0 = A (i + 1) 0 := by
        show A (skp 0 i) (skp (j + 1) 0) = _
        rw [skp_zero, skp_first _ (by omega)]
      rw [e3]
      generalize det n (mnr (mnr A 0 (j + 1)) i 0) = d
      generalize A (i + 1) 0 = a
      generalize sg i = s
      generalize sg j = t
      grind
theorem row_sum (n : Nat) (v : Nat → Int) (c : Nat) (hc : c < n) : v c = sumN n fun k => v k * ej k c := by
  rw [sumN_one (a := c) hc (fun k _ hk => by rw [ej_ne (Ne.symm hk), Int.mul_zero]), ej_self, Int.mul_one]
theorem row_split {n r : Nat} {f : Mx → Int} (hl : Lin n f) (ho : Loc n f) (hr : r < n) (A : Mx) : f A = sumN n fun j => A r j * f (stR A r (ej j)) := by
  rw [← lin_sum hl hr A n (A r) ej]
  refine ho _ _ fun i c hi hc => ?_
  unfold stR
  by_cases h : i = r
  · rw [if_pos h, h]
    exact row_sum n (A r) c hc
  · rw [if_neg h]
theorem det_row (n : Nat) (A : Mx) : det (n + 1) A = sumN (n + 1) fun j => sg j * A 0 j * det n (mnr A 0 j) := by
  rw [row_split (det_lin (n + 1)) (det_loc (n + 1)) (r := 0) (by omega)]
  refine sumN_congr fun j hj => ?_
  rw [det_unit n A j hj]
  generalize det n (mnr A 0 j) = d
  generalize sg j = s
  grind
theorem mnr_trX (A : Mx) (i j : Nat) : mnr (trX A) i j = trX (mnr A j i) := rfl
theorem det_tr (n : Nat) : ∀ A : Mx, det n (trX A) = det n A := by
  induction n with
  | zero => intro A; rfl
  | succ n ih =>
    intro A
    rw [det_succ, det_row]
    refine sumN_congr fun i _ => ?_
    rw [mnr_trX, ih]
    rfl
theorem det_id (n : Nat) : det n idX = 1 := by
  induction n with
  | zero => rfl
  | succ n ih =>
    rw [det_succ, sumN_one (a := 0) (by omega)]
    · have e : mnr idX 0 0 = idX := by
        funext r c
        show (if skp 0 r = skp 0 c then (1 : Int) else 0) = if r = c then 1 else 0
        rw [skp_zero, skp_zero]
        by_cases h : r = c
        · rw [if_pos h, if_pos (by omega)]
        · rw [if_neg h, if_neg (by omega)]
      rw [e, ih]; rfl
    · intro i _ hi
      have : idX i 0 = 0 := if_neg hi
      rw [this, Int.mul_zero, Int.zero_mul]
def mvX (i : Nat) (A : Mx) : Mx := fun r c => if r = 0 then A i c else A (skp i (r - 1)) c
theorem det_mv (n : Nat) (A : Mx) (i : Nat) (hi : i < n + 1) : det (n + 1) (mvX i A) = sg i * det (n + 1) A := by
  induction i with
  | zero =>
    rw [sg_zero, Int.one_mul]
    refine det_congr fun r c _ _ => ?_
    unfold mvX
    by_cases h : r = 0
    · rw [if_pos h, h]
    · rw [if_neg h, skp_zero, show r - 1 + 1 = r by omega]
  | succ i ih =>
    have e : det (n + 1) (mvX (i + 1) A) = det (n + 1) (swR (mvX i A) 0 (i + 1)) := by
      refine det_congr fun r c _ _ => ?_
      unfold swR mvX
      by_cases h : r = 0
      · rw [if_pos h, if_pos h, if_neg (by omega)]
        have : skp i (i + 1 - 1) = i + 1 := by unfold skp; rw [if_neg (by omega)]; omega
        rw [this]
      · rw [if_neg h, if_neg h]
        by_cases h2 : r = i + 1
        · rw [if_pos h2, if_pos rfl]
          have : skp (i + 1) (r - 1) = i := by unfold skp; rw [if_pos (by omega)]; omega
          rw [this]
        · rw [if_neg h2, if_neg h]
          have : skp (i + 1) (r - 1) = skp i (r - 1) := by
            unfold skp
            by_cases h3 : r - 1 < i
            · rw [if_pos h3, if_pos (by omega)]
            · rw [if_neg h3, if_neg (by omega)]
          rw [this]
    rw [e, alt_swap (det_lin _) (det_alt _) (by omega) (by omega) hi, ih (by omega), sg_succ, Int.neg_mul]
theorem det_row_at (n : Nat) (A : Mx) (i : Nat) (hi : i < n + 1) : det (n + 1) A = sumN (n + 1) fun j => sg (i + j) * A i j * det n (mnr A i j) := by
  have h := det_mv n A i hi
  rw [det_row] at h
  have h2 : sg i * (sg i * det (n + 1) A) = det (n + 1) A := by rw [← Int.mul_assoc, sg_sq, Int.one_mul]
  rw [← h2, ← h, sumN_mul_left]
  refine sumN_congr fun j _ => ?_
  have e : mnr (mvX i A) 0 j = mnr A i j := by
    funext r c
    show mvX i A (skp 0 r) (skp j c) = A (skp i r) (skp j c)
    rw [skp_zero]
    show (if r + 1 = 0 then _ else A (skp i (r + 1 - 1)) (skp j c)) = _
    rw [if_neg (by omega), Nat.add_sub_cancel]
  have e2 : mvX i A 0 j = A i j := if_pos rfl
  rw [e, e2, sg_add]
  grind
theorem det_row_other (n : Nat) (A : Mx) (i k : Nat) (hi : i < n + 1) (hk : k < n + 1) (hne : i ≠ k) : (sumN (n + 1) fun j => sg (k + j) * A i j * det n (mnr A k j)) = 0 := by
  have h := det_row_at n (stR A k (A i)) k hk
  rw [alt_at (det_alt _) hne hi hk _ (fun c _ => by rw [stR_at, stR_ne _ _ _ _ _ hne])] at h
  rw [h]
  refine sumN_congr fun j _ => ?_
  rw [stR_at, mnr_stR_same]
theorem det_col_at (n : Nat) (A : Mx) (j : Nat) (hj : j < n + 1) : det (n + 1) A = sumN (n + 1) fun i => sg (i + j) * A i j * det n (mnr A i j) := by
  rw [← det_tr, det_row_at n (trX A) j hj]
  refine sumN_congr fun i _ => ?_
  rw [mnr_trX, det_tr, Nat.add_comm j i]
  rfl
theorem det_col_other (n : Nat) (A : Mx) (j k : Nat) (hj : j < n + 1) (hk : k < n + 1) (hne : j ≠ k) : (sumN (n + 1) fun i => sg (i + k) * A i j * det n (mnr A i k)) = 0 := by
  rw [← det_row_other n (trX A) j k hj hk hne]
  refine sumN_congr fun i _ => ?_
  rw [mnr_trX, det_tr, Nat.add_comm k i]
  rfl
def adjX (n : Nat) (A : Mx) : Mx := fun j i => sg (i + j) * det n (mnr A i j)
theorem mul_adj (n : Nat) (A : Mx) (i k : Nat) (hi : i < n + 1) (hk : k < n + 1) : mulX (n + 1) A (adjX n A) i k = if i = k then det (n + 1) A else 0 := by
  show (sumN (n + 1) fun j => A i j * (sg (k + j) * det n (mnr A k j))) = _
  have e : (sumN (n + 1) fun j => A i j * (sg (k + j) * det n (mnr A k j))) = sumN (n + 1) fun j => sg (k + j) * A i j * det n (mnr A k j) := sumN_congr fun j _ => by grind
  rw [e]
  by_cases h : i = k
  · rw [if_pos h, h]; exact (det_row_at n A k hk).symm
  · rw [if_neg h]; exact det_row_other n A i k hi hk h
theorem adj_mul (n : Nat) (A : Mx) (i k : Nat) (hi : i < n + 1) (hk : k < n + 1) : mulX (n + 1) (adjX n A) A i k = if i = k then det (n + 1) A else 0 := by
  show (sumN (n + 1) fun j => sg (j + i) * det n (mnr A j i) * A j k) = _
  have e : (sumN (n + 1) fun j => sg (j + i) * det n (mnr A j i) * A j k) = sumN (n + 1) fun j => sg (j + i) * A j k * det n (mnr A j i) := sumN_congr fun j _ => by grind
  rw [e]
  by_cases h : i = k
  · subst h; rw [if_pos rfl]; exact (det_col_at n A i hi).symm
  · rw [if_neg h]; exact det_col_other n A k i hk hi (Ne.symm h)
end Go.Proofs.Ytpelnfenfeoeeaa
end

section
/-
  Elimination without fractions: the cells that are made are bordered minors, so each division is exact. Plain mathematics: nothing of a program is used.
-/
namespace Go.Proofs.Ytpelnfenfeoeeaa
end Go.Proofs.Ytpelnfenfeoeeaa
end

section
/-
  Plain mathematics of chapter 6: the determinant by expansion along the first row, with a mark where one that is met is beyond the limit. Nothing of a program is used.
-/
namespace Go.Proofs.Ytpelnfenfeoeeaa
def mxL (n : Nat) (xs : List Int) : Mx := fun r c => xs.getD (r * n + c) 0
theorem fitB_or (z : Int) : fitB z = badN ∨ NumP (fitB z) := by
  unfold fitB
  by_cases h : NumP z
  · rw [if_pos h]; exact .inr h
  · rw [if_neg h]; exact .inl rfl
end Go.Proofs.Ytpelnfenfeoeeaa
end

section
/-
  Chapter 3, in the model: a matrix of zeros.
-/
namespace Go.Proofs.Ytpelnfenfeoeeaa
open Go.RowKit
end Go.Proofs.Ytpelnfenfeoeeaa
end

section
/-
  Plain mathematics: a row that is filled from the left.
-/
namespace Go.Proofs.Ytpelnfenfeoeeaa
end Go.Proofs.Ytpelnfenfeoeeaa
end

section
/-
  Chapter 3, in the model: IdentityMatrix.
-/
namespace Go.Proofs.Ytpelnfenfeoeeaa
open Go.RowKit
def idL (n k : Nat) : List Int := (List.range (n * n)).map fun j => if j % (n + 1) = 0 ∧ j < k * (n + 1) then 1 else 0
theorem idL_length (n k : Nat) : (idL n k).length = n * n := by simp [idL]
theorem idL_zero (n : Nat) : idL n 0 = List.replicate (n * n) 0 := by
  apply List.ext_getElem (by simp [idL])
  intro i h1 h2
  simp [idL]
theorem idL_at (n k : Nat) : (idL n k).getD (k * n + k) 0 = 0 := by
  have e : k * n + k = k * (n + 1) := (Nat.mul_succ k n).symm
  rw [e]
  unfold idL List.getD
  rcases Nat.lt_or_ge (k * (n + 1)) (n * n) with h | h
  · simp [h]
  · simp [h]
theorem idL_step (n k : Nat) : (idL n k).set (k * n + k) 1 = idL n (k + 1) := by
  have e : k * n + k = k * (n + 1) := (Nat.mul_succ k n).symm
  rw [e]
  apply List.ext_getElem (by simp [idL])
  intro i h1 h2
  have hi : i < n * n := by simpa [idL] using h2
  rw [List.getElem_set]
  by_cases hk : k * (n + 1) = i
  · rw [if_pos hk]
    have h3 : i % (n + 1) = 0 := by rw [← hk]; exact Nat.mul_mod_left _ _
    have h4 : i < (k + 1) * (n + 1) := by rw [← hk, Nat.succ_mul]; omega
    simp [idL, h3, h4]
  · rw [if_neg hk]
    have h5 : (i % (n + 1) = 0 ∧ i < k * (n + 1)) ↔ (i % (n + 1) = 0 ∧ i < (k + 1) * (n + 1)) := by
      constructor
      · rintro ⟨a, b⟩; exact ⟨a, by rw [Nat.succ_mul]; omega⟩
      · rintro ⟨a, b⟩
        refine ⟨a, ?_⟩
        obtain ⟨q, hq⟩ := Nat.dvd_of_mod_eq_zero a
        rw [Nat.mul_comm] at hq
        rw [hq] at b ⊢
        have := Nat.lt_of_mul_lt_mul_right b
        have hne : q ≠ k := by rintro rfl; exact hk hq.symm
        exact Nat.mul_lt_mul_of_pos_right (by omega) (by omega)
    simp only [idL, List.getElem_map, List.getElem_range, h5]
end Go.Proofs.Ytpelnfenfeoeeaa
end

section
/-
  Plain mathematics of chapters 5 and 6: what operations on rows do to the determinant. Nothing of a program is used.
-/
namespace Go.Proofs.Ytpelnfenfeoeeaa
theorem opL_getD {k : Int} {I J : Nat} {t : Int} {C : Nat} {xs : List Int} {p : Nat} (hp : p < xs.length) : (opL k I J t C xs).getD p 0 = opAt k I J t C xs p := by
  unfold opL
  simp only [List.getD, List.getElem?_map, List.getElem?_range hp, Option.map_some, Option.getD_some]
theorem opL_raw {k : Int} {I J : Nat} {t : Int} {R C : Nat} {xs : List Int} (hk : k = 0 ∨ k = 1 ∨ k = 2) (hl : xs.length = R * C) (hx : nums xs = true) (hI : I < R) (ht : NumP t) (hn : nums (opL k I J t C xs) = true) (p : Nat) (hp : p < R * C) :
    (opL k I J t C xs).getD p 0 = rwAt k I J t C xs p := by
  have hpr : ∀ q, q < C → k = 2 → NumP (xs.getD (J * C + q) 0 * t) := by
    intro q hq h2
    subst h2
    by_cases hb : NumP (xs.getD (J * C + q) 0 * t)
    · exact hb
    · exfalso
      have hi : I * C + q < xs.length := by rw [hl]; exact idx_lt hI hq
      have e : (opL 2 I J t C xs).getD (I * C + q) 0 = badN := by
        rw [opL_getD hi, opAt_two _ _ _ _ _ hq, mulB_num (nums_def hx _) ht, fitB_bad hb, addB_bad]
      have := nums_at hn (j := I * C + q) (by rw [opL_length]; exact hi)
      rw [e] at this
      exact bad_not this
  have hC : 0 < C := by
    rcases Nat.eq_zero_or_pos C with e | e
    · subst e; omega
    · exact e
  have hp' : p < xs.length := by rw [hl]; exact hp
  have h1 := nums_at hn (j := p) (by rw [opL_length]; exact hp')
  rw [opL_getD hp', opAt_raw k I J t C xs p hk hx ht (fun h2 _ => hpr _ (Nat.mod_lt p hC) h2)] at h1 ⊢
  by_cases hz : NumP (rwAt k I J t C xs p)
  · exact fitB_num hz
  · rw [fitB_bad hz] at h1; exact absurd h1 bad_not
def opX (k : Int) (I J : Nat) (t : Int) (A : Mx) : Mx := fun r c =>
  if k = 0 then (if r = I then A J c else if r = J then A I c else A r c)
  else if k = 1 then (if r = I then - A r c else A r c)
  else (if r = I then A r c + A J c * t else A r c)
theorem rwAt_mx {k : Int} {I J : Nat} {t : Int} {C : Nat} {xs : List Int} {r c : Nat} (hc : c < C) : rwAt k I J t C xs (r * C + c) = opX k I J t (fun r c => xs.getD (r * C + c) 0) r c := by
  unfold rwAt opX
  rw [idx_div hc, idx_mod hc]
def opSg (k : Int) : Int := if k = 2 then 1 else -1
theorem opX_det {k : Int} {I J : Nat} {t : Int} {n : Nat} (A : Mx) (hk : k = 0 ∨ k = 1 ∨ k = 2) (hI : I < n) (hJ : J < n) (hIJ : k ≠ 1 → I ≠ J) : det n (opX k I J t A) = opSg k * det n A := by
  rcases hk with rfl | rfl | rfl
  · have e : opX 0 I J t A = swR A I J := by
      funext r c
      unfold opX swR
      rw [if_pos rfl]
    rw [e, alt_swap (det_lin n) (det_alt n) (hIJ (by decide)) hI hJ A]
    unfold opSg
    rw [if_neg (by decide)]; omega
  · have e : opX 1 I J t A = stR A I (fun c => (-1) * A I c) := by
      funext r c
      unfold opX stR
      rw [if_neg (by decide), if_pos rfl]
      by_cases h : r = I
      · rw [if_pos h, if_pos h, h]
        show - A I c = (-1) * A I c
        omega
      · rw [if_neg h, if_neg h]
    rw [e, lin_scale (det_lin n) hI A (-1) (A I), stR_self]
    unfold opSg
    rw [if_neg (by decide)]
  · have e : opX 2 I J t A = stR A I (fun c => A I c + t * A J c) := by
      funext r c
      unfold opX stR
      rw [if_neg (by decide), if_neg (by decide)]
      by_cases h : r = I
      · rw [if_pos h, if_pos h, h, Int.mul_comm]
      · rw [if_neg h, if_neg h]
    rw [e, alt_add (det_lin n) (det_alt n) (hIJ (by decide)) hI hJ A t]
    unfold opSg
    rw [if_pos rfl, Int.one_mul]
theorem mxL_idL (n : Nat) : EqX n (mxL n (idL n n)) idX := fun r c hr hc => by
  have hp : r * n + c < n * n := idx_lt hr hc
  have e : (idL n n).getD (r * n + c) 0 = if (r * n + c) % (n + 1) = 0 ∧ r * n + c < n * (n + 1) then 1 else 0 := by
    unfold idL
    simp only [List.getD, List.getElem?_map, List.getElem?_range hp, Option.map_some, Option.getD_some]
  show (idL n n).getD (r * n + c) 0 = _
  rw [e]
  have hlt : r * n + c < n * (n + 1) := by rw [Nat.mul_add, Nat.mul_one]; omega
  unfold idX
  rcases Nat.lt_trichotomy r c with h | h | h
  · have e2 : r * n + c = r * (n + 1) + (c - r) := by rw [Nat.mul_add, Nat.mul_one]; omega
    rw [if_neg (fun h' => by rw [e2, idx_mod (by omega)] at h'; omega), if_neg (by omega)]
  · subst h
    have e2 : r * n + r = r * (n + 1) + 0 := by rw [Nat.mul_add, Nat.mul_one]; omega
    rw [if_pos ⟨by rw [e2, idx_mod (by omega)], hlt⟩, if_pos rfl]
  · obtain ⟨p, rfl⟩ : ∃ p, r = p + 1 := ⟨r - 1, by omega⟩
    have e2 : (p + 1) * n + c = p * (n + 1) + (n + c - p) := by rw [Nat.mul_add, Nat.mul_one, Nat.add_mul, Nat.one_mul]; omega
    rw [if_neg (fun h' => by rw [e2, idx_mod (by omega)] at h'; omega), if_neg (by omega)]
theorem idL_nums (n : Nat) : nums (idL n n) = true := by
  refine nums_true fun p hp => ?_
  rw [idL_length] at hp
  unfold idL
  simp only [List.getD, List.getElem?_map, List.getElem?_range hp, Option.map_some, Option.getD_some]
  split
  · exact ⟨by decide, by decide⟩
  · exact ⟨by decide, by decide⟩
end Go.Proofs.Ytpelnfenfeoeeaa
end

section
/-
  Plain mathematics of chapter 3: what a product and a matrix turned over are. Nothing of a program is used.
-/
namespace Go.Proofs.Ytpelnfenfeoeeaa
open Go.RowKit
def turnL (R C : Nat) (xs : List Int) : List Int := tab C R fun j i => xs.getD (i * C + j) 0
def turnM (r c : Int) (xs : List Int) : MR := if isMat r c xs = true then ⟨true, c, r, turnL r.toNat c.toNat xs⟩ else MR.no
end Go.Proofs.Ytpelnfenfeoeeaa
end

section
/-
  What SameMatrix answers.
-/
namespace Go.Proofs.Ytpelnfenfeoeeaa
end Go.Proofs.Ytpelnfenfeoeeaa
end

section
/-
  Plain mathematics of chapter 3: products and matrices turned over. Nothing of a program is used.
-/
namespace Go.Proofs.Ytpelnfenfeoeeaa
theorem turnL_length (R C : Nat) (xs : List Int) : (turnL R C xs).length = C * R := tab_length _ _ _
theorem turnL_at (R C : Nat) (xs : List Int) {i j : Nat} (hi : i < R) (hj : j < C) : (turnL R C xs).getD (j * R + i) 0 = xs.getD (i * C + j) 0 := by
  unfold turnL
  rw [tab_at C R _ hj hi]
theorem turn_turn (R C : Nat) (xs : List Int) (h : xs.length = R * C) : turnL C R (turnL R C xs) = xs := by
  unfold turnL
  rw [eq_comm]
  refine tab_ext h fun i j hi hj => ?_
  exact (turnL_at R C xs hi hj).symm
theorem turnM_ok {R C : Nat} {xs : List Int} (h : isMat R C xs = true) : turnM R C xs = ⟨true, C, R, turnL R C xs⟩ := by
  unfold turnM
  rw [if_pos h]
  simp only [Int.toNat_natCast]
end Go.Proofs.Ytpelnfenfeoeeaa
end

section
/-
  Plain mathematics of chapter 3: products can be grouped in any way, and distribute over sums. Nothing of a program is used.
-/
namespace Go.Proofs.Ytpelnfenfeoeeaa
end Go.Proofs.Ytpelnfenfeoeeaa
end

section
/-
  Plain mathematics of chapter 12: unimodular multiples span one lattice; the state of the work towards a Hermite form. Nothing of a program is used.
-/
namespace Go.Proofs.Ytpelnfenfeoeeaa
theorem SubL.mul (n c : Nat) (U M : Mx) : SubL n n c (mulX n U M) M := fun i _ => ⟨U i, fun _ _ => rfl⟩
theorem SubL.unmul {n c : Nat} {U M : Mx} (h : det n U = 1 ∨ det n U = -1) : SubL n n c M (mulX n U M) := by
  rcases n with _ | m
  · intro i hi; omega
  intro i hi
  refine ⟨fun a => det (m + 1) U * adjX m U i a, fun j _ => ?_⟩
  have hd : det (m + 1) U * det (m + 1) U = 1 := by rcases h with h | h <;> rw [h] <;> rfl
  have e1 : (sumN (m + 1) fun a => det (m + 1) U * adjX m U i a * mulX (m + 1) U M a j) = sumN (m + 1) fun a => sumN (m + 1) fun b => det (m + 1) U * (adjX m U i a * U a b) * M b j := by
    refine sumN_congr fun a _ => ?_
    show det (m + 1) U * adjX m U i a * (sumN (m + 1) fun b => U a b * M b j) = _
    rw [sumN_mul_left]
    exact sumN_congr fun b _ => by grind
  rw [e1, sumN_swap]
  have e2 : (sumN (m + 1) fun b => sumN (m + 1) fun a => det (m + 1) U * (adjX m U i a * U a b) * M b j) = sumN (m + 1) fun b => det (m + 1) U * (if i = b then det (m + 1) U else 0) * M b j := by
    refine sumN_congr fun b hb => ?_
    rw [← sumN_mul, ← sumN_mul_left]
    have := adj_mul m U i b hi hb
    unfold mulX at this
    rw [this]
  rw [e2, sumN_one (a := i) hi (fun b _ hne => by rw [if_neg (Ne.symm hne), Int.mul_zero, Int.zero_mul]), if_pos rfl, hd, Int.one_mul]
theorem opX_mul {k : Int} {I J : Nat} {t : Int} {n : Nat} {U M A : Mx} {c : Nat} (hI : I < n) (hJ : J < n) (h : ∀ i j, i < n → j < c → mulX n U M i j = A i j) : ∀ i j, i < n → j < c → mulX n (opX k I J t U) M i j = opX k I J t A i j := fun i j hi hj => by
  unfold opX
  by_cases k0 : k = 0
  · rw [if_pos k0]
    show (sumN n fun a => (if k = 0 then (if i = I then U J a else if i = J then U I a else U i a) else if k = 1 then (if i = I then - U i a else U i a) else (if i = I then U i a + U J a * t else U i a)) * M a j) = _
    simp only [if_pos k0]
    by_cases e1 : i = I
    · simp only [if_pos e1]; exact h J j hJ hj
    · simp only [if_neg e1]
      by_cases e2 : i = J
      · simp only [if_pos e2]; exact h I j hI hj
      · simp only [if_neg e2]; exact h i j hi hj
  · rw [if_neg k0]
    show (sumN n fun a => (if k = 0 then (if i = I then U J a else if i = J then U I a else U i a) else if k = 1 then (if i = I then - U i a else U i a) else (if i = I then U i a + U J a * t else U i a)) * M a j) = _
    simp only [if_neg k0]
    by_cases k1 : k = 1
    · simp only [if_pos k1]
      by_cases e1 : i = I
      · simp only [if_pos e1]
        rw [← h i j hi hj]
        show _ = - sumN n fun a => U i a * M a j
        rw [show (- sumN n fun a => U i a * M a j) = (-1) * sumN n fun a => U i a * M a j by omega, sumN_mul_left]
        exact sumN_congr fun a _ => by grind
      · simp only [if_neg e1]; exact h i j hi hj
    · simp only [if_neg k1]
      by_cases e1 : i = I
      · simp only [if_pos e1]
        rw [← h i j hi hj, ← h J j hJ hj]
        show _ = (sumN n fun a => U i a * M a j) + (sumN n fun a => U J a * M a j) * t
        rw [sumN_mul, ← sumN_add]
        exact sumN_congr fun a _ => by grind
      · simp only [if_neg e1]; exact h i j hi hj
structure Acc (n c : Nat) (U M A : Mx) : Prop where
  mul : ∀ i j, i < n → j < c → mulX n U M i j = A i j
  uni : det n U = 1 ∨ det n U = -1
theorem Acc.start (n c : Nat) (M : Mx) : Acc n c idX M M := ⟨fun i j hi _ => by
  show (sumN n fun k => idX i k * M k j) = M i j
  rw [sumN_one (a := i) hi (fun k _ hne => by unfold idX; rw [if_neg (Ne.symm hne), Int.zero_mul])]
  unfold idX
  rw [if_pos rfl, Int.one_mul], .inl (det_id n)⟩
theorem Acc.op {n c : Nat} {U M A : Mx} (h : Acc n c U M A) {k : Int} {I J : Nat} {t : Int} (hk : k = 0 ∨ k = 1 ∨ k = 2) (hI : I < n) (hJ : J < n) (hIJ : k ≠ 1 → I ≠ J) : Acc n c (opX k I J t U) M (opX k I J t A) := by
  refine ⟨opX_mul hI hJ h.mul, ?_⟩
  rw [opX_det U hk hI hJ hIJ]
  have := h.uni
  unfold opSg
  split <;> omega
theorem Acc.congr {n c : Nat} {U V M A B : Mx} (h : Acc n c U M A) (hu : EqX n U V) (ha : ∀ i j, i < n → j < c → A i j = B i j) : Acc n c V M B := by
  refine ⟨fun i j hi hj => ?_, by rw [← det_congr hu]; exact h.uni⟩
  rw [← ha i j hi hj, ← h.mul i j hi hj]
  exact sumN_congr fun k hk => by rw [hu i k hi hk]
theorem Acc.sub {n c : Nat} {U M A : Mx} (h : Acc n c U M A) : SubL n n c A M ∧ SubL n n c M A := by
  have e1 : SubL n n c A (mulX n U M) := SubL.congr fun i j hi hj => (h.mul i j hi hj).symm
  have e2 : SubL n n c (mulX n U M) A := SubL.congr fun i j hi hj => h.mul i j hi hj
  exact ⟨e1.trans (SubL.mul n c U M), (SubL.unmul h.uni).trans e2⟩
structure HInv (r c : Nat) (A : Mx) (q : Nat → Nat) (t j : Nat) : Prop where
  le : t ≤ r
  jc : j ≤ c
  col : ∀ k, k < t → q k < j
  inc : ∀ k l, k < l → l < t → q k < q l
  pos : ∀ k, k < t → 0 < A k (q k)
  left : ∀ k b, k < t → b < q k → A k b = 0
  above : ∀ k i, k < t → i < k → 0 ≤ A i (q k) ∧ A i (q k) < A k (q k)
  low : ∀ i b, t ≤ i → i < r → b < j → A i b = 0
section
variable {r c t j : Nat} {A B : Mx} {q : Nat → Nat}
theorem HInv.start (r c : Nat) (A : Mx) (q : Nat → Nat) : HInv r c A q 0 0 := ⟨Nat.zero_le _, Nat.zero_le _, fun k hk => by omega, fun k l _ hl => by omega, fun k hk => by omega, fun k b hk => by omega, fun k i hk => by omega, fun i b _ _ hb => by omega⟩
theorem HInv.congr (h : HInv r c A q t j) (e : ∀ i b, i < r → b < j → B i b = A i b) : HInv r c B q t j := by
  have hle := h.le
  refine ⟨h.le, h.jc, h.col, h.inc, fun k hk => ?_, fun k b hk hb => ?_, fun k i hk hi => ?_, fun i b h1 h2 h3 => ?_⟩
  · rw [e k _ (by omega) (h.col k hk)]; exact h.pos k hk
  · have := h.col k hk
    rw [e k b (by omega) (by omega)]; exact h.left k b hk hb
  · rw [e i _ (by omega) (h.col k hk), e k _ (by omega) (h.col k hk)]; exact h.above k i hk hi
  · rw [e i b h2 h3]; exact h.low i b h1 h2 h3
theorem HInv.skip (h : HInv r c A q t j) (hj : j < c) (hz : ∀ i, t ≤ i → i < r → A i j = 0) : HInv r c A q t (j + 1) := by
  refine ⟨h.le, hj, fun k hk => by have := h.col k hk; omega, h.inc, h.pos, h.left, h.above, fun i b h1 h2 h3 => ?_⟩
  rcases Nat.lt_or_ge b j with h4 | h4
  · exact h.low i b h1 h2 h4
  · obtain rfl : b = j := by omega
    exact hz i h1 h2
def putQ (q : Nat → Nat) (t j : Nat) : Nat → Nat := fun k => if k = t then j else q k
theorem HInv.put (h : HInv r c A q t j) (hj : j < c) (ht : t < r) (hp : 0 < A t j) (hz : ∀ i, t < i → i < r → A i j = 0) (ha : ∀ i, i < t → 0 ≤ A i j ∧ A i j < A t j) : HInv r c A (putQ q t j) (t + 1) (j + 1) := by
  have q1 : ∀ k, k < t → putQ q t j k = q k := fun k hk => if_neg (by omega)
  have q2 : putQ q t j t = j := if_pos rfl
  have sp : ∀ k, k < t + 1 → k < t ∨ k = t := fun k hk => by omega
  refine ⟨ht, hj, fun k hk => ?_, fun k l hkl hl => ?_, fun k hk => ?_, fun k b hk hb => ?_, fun k i hk hi => ?_, fun i b h1 h2 h3 => ?_⟩
  · rcases sp k hk with h1 | rfl
    · rw [q1 k h1]; have := h.col k h1; omega
    · rw [q2]; omega
  · rcases sp l hl with h1 | rfl
    · rw [q1 l h1, q1 k (by omega)]; exact h.inc k l hkl h1
    · rw [q2, q1 k hkl]; exact h.col k hkl
  · rcases sp k hk with h1 | rfl
    · rw [q1 k h1]; exact h.pos k h1
    · rw [q2]; exact hp
  · rcases sp k hk with h1 | rfl
    · rw [q1 k h1] at hb; exact h.left k b h1 hb
    · rw [q2] at hb; exact h.low k b (Nat.le_refl _) ht hb
  · rcases sp k hk with h1 | rfl
    · rw [q1 k h1]; exact h.above k i h1 hi
    · rw [q2]; exact ha i hi
  · rcases Nat.lt_or_ge b j with h4 | h4
    · exact h.low i b (by omega) h2 h4
    · obtain rfl : b = j := by omega
      exact hz i (by omega) h2
theorem HInv.done (h : HInv r c A q t j) (he : t = r ∨ j = c) : HerP r c A q t :=
  ⟨h.le, fun k hk => by have := h.col k hk; have := h.jc; omega, h.inc, h.pos, h.left, fun i b h1 h2 h3 => by
    rcases he with e | e
    · omega
    · exact h.low i b h1 h2 (by omega), h.above⟩
theorem HInv.opAdd (h : HInv r c A q t j) {I J : Nat} {z : Int} (hJ : t ≤ J) (hJr : J < r) : HInv r c (opX 2 I J z A) q t j := h.congr fun i b hi hb => by
  unfold opX
  rw [if_neg (by decide), if_neg (by decide)]
  split
  · rw [h.low J b hJ hJr hb, Int.zero_mul, Int.add_zero]
  · rfl
theorem HInv.opSwap (h : HInv r c A q t j) {I J : Nat} {z : Int} (hI : t ≤ I) (hIr : I < r) (hJ : t ≤ J) (hJr : J < r) : HInv r c (opX 0 I J z A) q t j := h.congr fun i b hi hb => by
  unfold opX
  rw [if_pos rfl]
  split
  · rename_i e; rw [h.low J b hJ hJr hb, e, h.low I b hI hIr hb]
  · split
    · rename_i e; rw [h.low I b hI hIr hb, e, h.low J b hJ hJr hb]
    · rfl
theorem HInv.opNeg (h : HInv r c A q t j) {I J : Nat} {z : Int} (hI : t ≤ I) (hIr : I < r) : HInv r c (opX 1 I J z A) q t j := h.congr fun i b hi hb => by
  unfold opX
  rw [if_neg (by decide), if_pos rfl]
  split
  · rename_i e; rw [e, h.low I b hI hIr hb]; rfl
  · rfl
end
end Go.Proofs.Ytpelnfenfeoeeaa
end

section
/-
  Plain mathematics of chapter 12: the work towards a Hermite form, on lists, with marks for what is beyond the limit. Nothing of a program is used.
-/
namespace Go.Proofs.Ytpelnfenfeoeeaa
def MkOr (xs : List Int) : Prop := ∀ p, xs.getD p 0 = badN ∨ NumP (xs.getD p 0)
theorem getD_out {xs : List Int} {p : Nat} (h : xs.length ≤ p) : xs.getD p 0 = 0 := by simp [List.getD, h]
theorem MkOr.of_nums {xs : List Int} (h : nums xs = true) : MkOr xs := fun p => .inr (nums_def h p)
theorem mulB_or (a b : Int) : mulB a b = badN ∨ NumP (mulB a b) := by
  unfold mulB
  split
  · exact .inl rfl
  · exact fitB_or _
theorem addB_or (a b : Int) : addB a b = badN ∨ NumP (addB a b) := by
  unfold addB
  split
  · exact .inl rfl
  · exact fitB_or _
theorem MkOr.op {k : Int} {I J : Nat} {z : Int} {C : Nat} {xs : List Int} (h : MkOr xs) : MkOr (opL k I J z C xs) := fun p => by
  rcases Nat.lt_or_ge p xs.length with hp | hp
  · rw [opL_getD hp]
    unfold opAt
    split
    · split
      · exact h _
      · split
        · exact h _
        · exact h _
    · split
      · split
        · exact mulB_or _ _
        · exact h _
      · split
        · exact addB_or _ _
        · exact h _
  · rw [getD_out (by rw [opL_length]; exact hp)]
    exact .inr (by decide)
theorem mulB_keeps {a b : Int} (h : NumP (mulB a b)) : a ≠ badN := fun e => by
  unfold mulB at h
  rw [if_pos (.inl e)] at h
  exact bad_not h
theorem addB_keeps {a b : Int} (h : NumP (addB a b)) : a ≠ badN := fun e => by
  unfold addB at h
  rw [if_pos (.inl e)] at h
  exact bad_not h
theorem nums_back {k : Int} {I J : Nat} {z : Int} {R C : Nat} {xs : List Int} (h : MkOr xs) (hl : xs.length = R * C) (hI : I < R) (hJ : J < R) (hn : nums (opL k I J z C xs) = true) : nums xs = true := by
  have at_ : ∀ p, p < xs.length → NumP (opAt k I J z C xs p) := fun p hp => by
    have := nums_at hn (j := p) (by rw [opL_length]; exact hp)
    rwa [opL_getD hp] at this
  refine nums_true fun p hp => ?_
  have hC : 0 < C := by
    rcases Nat.eq_zero_or_pos C with e | e
    · subst e; omega
    · exact e
  have hm : p % C < C := Nat.mod_lt p hC
  have ep : p / C * C + p % C = p := Nat.div_add_mod' p C
  have h1 := at_ p hp
  unfold opAt at h1
  by_cases k0 : k = 0
  · rw [if_pos k0] at h1
    by_cases e1 : p / C = I
    · have hq : J * C + p % C < xs.length := by rw [hl]; exact idx_lt hJ hm
      have h2 := at_ _ hq
      unfold opAt at h2
      rw [if_pos k0, idx_div hm, idx_mod hm] at h2
      by_cases e2 : J = I
      · rw [if_pos e2, e2, ← e1, ep] at h2; exact h2
      · rw [if_neg e2, if_pos rfl, ← e1, ep] at h2; exact h2
    · by_cases e2 : p / C = J
      · have hq : I * C + p % C < xs.length := by rw [hl]; exact idx_lt hI hm
        have h2 := at_ _ hq
        unfold opAt at h2
        rw [if_pos k0, idx_div hm, idx_mod hm, if_pos rfl, ← e2, ep] at h2
        exact h2
      · rw [if_neg e1, if_neg e2] at h1; exact h1
  · rw [if_neg k0] at h1
    by_cases k1 : k = 1
    · rw [if_pos k1] at h1
      split at h1
      · exact (h p).resolve_left (mulB_keeps h1)
      · exact h1
    · rw [if_neg k1] at h1
      split at h1
      · exact (h p).resolve_left (addB_keeps h1)
      · exact h1
theorem opL_mx {k : Int} {I J : Nat} {z : Int} {R C : Nat} {xs : List Int} (hk : k = 0 ∨ k = 1 ∨ k = 2) (hl : xs.length = R * C) (hx : nums xs = true) (hI : I < R) (hz : NumP z) (hn : nums (opL k I J z C xs) = true) : ∀ i j, i < R → j < C → mxC C (opL k I J z C xs) i j = opX k I J z (mxC C xs) i j := fun i j hi hj => by
  show (opL k I J z C xs).getD (i * C + j) 0 = _
  rw [opL_raw hk hl hx hI hz hn _ (idx_lt hi hj), rwAt_mx hj]
  rfl
abbrev HSt := List Int × List Int
def op2 (R C : Nat) (k : Int) (I J : Nat) (z : Int) (s : HSt) : HSt := (opL k I J z C s.1, opL k I J z R s.2)
def okS (s : HSt) : Bool := nums s.1 && nums s.2
def celS (C : Nat) (s : HSt) (i j : Nat) : Int := mxC C s.1 i j
structure Siz (R C : Nat) (s : HSt) : Prop where
  l1 : s.1.length = R * C
  l2 : s.2.length = R * R
  m1 : MkOr s.1
  m2 : MkOr s.2
theorem Siz.op {R C : Nat} {s : HSt} (h : Siz R C s) (k : Int) (I J : Nat) (z : Int) : Siz R C (op2 R C k I J z s) :=
  ⟨by show (opL k I J z C s.1).length = _; rw [opL_length]; exact h.l1, by show (opL k I J z R s.2).length = _; rw [opL_length]; exact h.l2, h.m1.op, h.m2.op⟩
theorem okS_and {s : HSt} (h : okS s = true) : nums s.1 = true ∧ nums s.2 = true := by
  unfold okS at h
  rwa [Bool.and_eq_true] at h
theorem okS_back {R C : Nat} {s : HSt} (h : Siz R C s) {k : Int} {I J : Nat} {z : Int} (hI : I < R) (hJ : J < R) (ho : okS (op2 R C k I J z s) = true) : okS s = true := by
  obtain ⟨a, b⟩ := okS_and ho
  unfold okS
  rw [nums_back h.m1 h.l1 hI hJ a, nums_back h.m2 h.l2 hI hJ b]; rfl
structure Fin2 (R C : Nat) (M : Mx) (s : HSt) : Prop where
  siz : Siz R C s
  ok : okS s = true
  acc : Acc R C (mxC R s.2) M (mxC C s.1)
theorem Fin2.op {R C : Nat} {M : Mx} {s : HSt} (h : Fin2 R C M s) {k : Int} {I J : Nat} {z : Int} (hk : k = 0 ∨ k = 1 ∨ k = 2) (hI : I < R) (hJ : J < R) (hIJ : k ≠ 1 → I ≠ J) (hz : NumP z) (ho : okS (op2 R C k I J z s) = true) :
    Fin2 R C M (op2 R C k I J z s) ∧ ∀ i j, i < R → j < C → celS C (op2 R C k I J z s) i j = opX k I J z (mxC C s.1) i j := by
  obtain ⟨a, b⟩ := okS_and ho
  obtain ⟨a0, b0⟩ := okS_and h.ok
  have e1 := opL_mx hk h.siz.l1 a0 hI hz a
  have e2 := opL_mx hk h.siz.l2 b0 hI hz b
  exact ⟨⟨h.siz.op k I J z, ho, (h.acc.op hk hI hJ hIJ).congr (fun i j hi hj => (e2 i j hi hj).symm) fun i j hi hj => (e1 i j hi hj).symm⟩, e1⟩
theorem Fin2.num {R C : Nat} {M : Mx} {s : HSt} (h : Fin2 R C M s) (i j : Nat) : NumP (celS C s i j) := nums_def (okS_and h.ok).1 _
theorem quot_left {x y : Int} (hy : y ≠ 0) : x + y * (-(x / y)) = x % y ∧ 0 ≤ x % y ∧ x % y < (y.natAbs : Int) := by
  refine ⟨?_, Int.emod_nonneg x hy, Int.emod_lt x hy⟩
  rw [Int.emod_def, Int.mul_neg]; rfl
theorem quot_num {x y : Int} (hx : NumP x) (hy : y ≠ 0) : NumP (-(x / y)) := by
  unfold NumP at *
  obtain ⟨q1, q2, q3⟩ := quot_left (x := x) hy
  have hb : ((x / y).natAbs : Int) ≤ 400000000 := by
    have := Int.natAbs_ediv_le_natAbs x y
    omega
  omega
def leastF (f : Nat → Int) (t : Nat) : Nat → Int
  | 0 => -1
  | n + 1 => if f (t + n) ≠ 0 ∧ (leastF f t n < 0 ∨ (f (t + n)).natAbs < (f (leastF f t n).toNat).natAbs) then ((t + n : Nat) : Int) else leastF f t n
theorem leastF_says (f : Nat → Int) (t : Nat) : ∀ n : Nat, (leastF f t n = -1 ∧ ∀ i, t ≤ i → i < t + n → f i = 0) ∨ ∃ p : Nat, leastF f t n = (p : Int) ∧ t ≤ p ∧ p < t + n ∧ f p ≠ 0 ∧ ∀ i, t ≤ i → i < t + n → f i ≠ 0 → (f p).natAbs ≤ (f i).natAbs
  | 0 => .inl ⟨rfl, fun i h1 h2 => by omega⟩
  | n + 1 => by
    have sp : ∀ i, t ≤ i → i < t + (n + 1) → i < t + n ∨ i = t + n := fun i _ _ => by omega
    have step : leastF f t (n + 1) = if f (t + n) ≠ 0 ∧ (leastF f t n < 0 ∨ (f (t + n)).natAbs < (f (leastF f t n).toNat).natAbs) then ((t + n : Nat) : Int) else leastF f t n := rfl
    rcases leastF_says f t n with ⟨h1, h2⟩ | ⟨p, h1, h2, h3, h4, h5⟩
    · by_cases h0 : f (t + n) = 0
      · refine .inl ⟨by rw [step, if_neg (fun h => h.1 h0), h1], fun i hi hi2 => ?_⟩
        rcases sp i hi hi2 with h | rfl
        · exact h2 i hi h
        · exact h0
      · refine .inr ⟨t + n, by rw [step, if_pos ⟨h0, .inl (by omega)⟩], by omega, by omega, h0, fun i hi hi2 hne => ?_⟩
        rcases sp i hi hi2 with h | rfl
        · exact absurd (h2 i hi h) hne
        · exact Nat.le_refl _
    · have ep : (leastF f t n).toNat = p := by omega
      rw [ep] at step
      by_cases hc : f (t + n) ≠ 0 ∧ (leastF f t n < 0 ∨ (f (t + n)).natAbs < (f p).natAbs)
      · refine .inr ⟨t + n, by rw [step, if_pos hc], by omega, by omega, hc.1, fun i hi hi2 hne => ?_⟩
        have hlt : (f (t + n)).natAbs < (f p).natAbs := by
          rcases hc.2 with h | h
          · omega
          · exact h
        rcases sp i hi hi2 with h | rfl
        · have := h5 i hi h hne; omega
        · exact Nat.le_refl _
      · refine .inr ⟨p, by rw [step, if_neg hc, h1], h2, by omega, h4, fun i hi hi2 hne => ?_⟩
        rcases sp i hi hi2 with h | rfl
        · exact h5 i hi h hne
        · exact Nat.le_of_not_lt fun hlt => hc ⟨hne, .inr hlt⟩
def rndF (R C p j t : Nat) (s : HSt) : Nat → HSt
  | 0 => s
  | n + 1 => if t + n ≠ p ∧ celS C (rndF R C p j t s n) (t + n) j ≠ 0 then op2 R C 2 (t + n) p (-(celS C (rndF R C p j t s n) (t + n) j / celS C (rndF R C p j t s n) p j)) (rndF R C p j t s n) else rndF R C p j t s n
theorem rndF_siz {R C p j t : Nat} {s : HSt} (h : Siz R C s) : ∀ n, Siz R C (rndF R C p j t s n)
  | 0 => h
  | n + 1 => by
    show Siz R C (if _ then _ else _)
    split
    · exact (rndF_siz h n).op _ _ _ _
    · exact rndF_siz h n
theorem rndF_back {R C p j t : Nat} {s : HSt} (h : Siz R C s) (hp : p < R) {n : Nat} (hn : t + n < R) (ho : okS (rndF R C p j t s (n + 1)) = true) : okS (rndF R C p j t s n) = true := by
  change okS (if _ then _ else _) = true at ho
  split at ho
  · exact okS_back (rndF_siz h n) hn hp ho
  · exact ho
theorem rndF_says {R C p j t : Nat} {M : Mx} {s : HSt} {q : Nat → Nat} (hF : Fin2 R C M s) (hI : HInv R C (mxC C s.1) q t j) (hj : j < C) (hp : p < R) (htp : t ≤ p) (hpz : celS C s p j ≠ 0) : ∀ n, t + n ≤ R → okS (rndF R C p j t s n) = true →
    Fin2 R C M (rndF R C p j t s n) ∧ HInv R C (mxC C (rndF R C p j t s n).1) q t j ∧ celS C (rndF R C p j t s n) p j = celS C s p j ∧ (∀ i, i < R → t + n ≤ i → celS C (rndF R C p j t s n) i j = celS C s i j) ∧ (∀ i, t ≤ i → i < t + n → i ≠ p → 0 ≤ celS C (rndF R C p j t s n) i j ∧ celS C (rndF R C p j t s n) i j < ((celS C s p j).natAbs : Int))
  | 0, _, _ => ⟨hF, hI, rfl, fun _ _ _ => rfl, fun i h1 h2 => by omega⟩
  | n + 1, hn, ho => by
    obtain ⟨g1, g2, g3, g4, g5⟩ := rndF_says hF hI hj hp htp hpz n (by omega) (rndF_back hF.siz hp (by omega) ho)
    by_cases hc : t + n ≠ p ∧ celS C (rndF R C p j t s n) (t + n) j ≠ 0
    · have es : rndF R C p j t s (n + 1) = op2 R C 2 (t + n) p (-(celS C (rndF R C p j t s n) (t + n) j / celS C (rndF R C p j t s n) p j)) (rndF R C p j t s n) := if_pos hc
      rw [es] at ho ⊢
      have hy : celS C (rndF R C p j t s n) p j ≠ 0 := by rw [g3]; exact hpz
      obtain ⟨k1, k2⟩ := g1.op (.inr (.inr rfl)) (by omega) hp (fun _ => hc.1) (quot_num (g1.num _ _) hy) ho
      have ql := quot_left (x := celS C (rndF R C p j t s n) (t + n) j) hy
      have ce : ∀ i b, i < R → b < C → i ≠ t + n → celS C (op2 R C 2 (t + n) p (-(celS C (rndF R C p j t s n) (t + n) j / celS C (rndF R C p j t s n) p j)) (rndF R C p j t s n)) i b = celS C (rndF R C p j t s n) i b := fun i b hi hb hne => by
        rw [k2 i b hi hb]
        unfold opX
        rw [if_neg (by decide), if_neg (by decide), if_neg hne]; rfl
      have cn : celS C (op2 R C 2 (t + n) p (-(celS C (rndF R C p j t s n) (t + n) j / celS C (rndF R C p j t s n) p j)) (rndF R C p j t s n)) (t + n) j = celS C (rndF R C p j t s n) (t + n) j % celS C (rndF R C p j t s n) p j := by
        rw [k2 (t + n) j (by omega) hj, ← ql.1]
        unfold opX
        rw [if_neg (by decide), if_neg (by decide), if_pos rfl]; rfl
      refine ⟨k1, (g2.opAdd htp hp).congr fun i b hi hb => k2 i b hi (by omega), by rw [ce p j hp hj (Ne.symm hc.1)]; exact g3, fun i hi h1 => by rw [ce i j hi hj (by omega)]; exact g4 i hi (by omega), fun i h1 h2 h3 => ?_⟩
      rcases Nat.lt_or_ge i (t + n) with h4 | h4
      · rw [ce i j (by omega) hj (by omega)]; exact g5 i h1 h4 h3
      · obtain rfl : i = t + n := by omega
        rw [cn, g3]
        rw [g3] at ql
        exact ql.2
    · have es : rndF R C p j t s (n + 1) = rndF R C p j t s n := if_neg hc
      rw [es]
      refine ⟨g1, g2, g3, fun i hi h1 => g4 i hi (by omega), fun i h1 h2 h3 => ?_⟩
      rcases Nat.lt_or_ge i (t + n) with h4 | h4
      · exact g5 i h1 h4 h3
      · obtain rfl : i = t + n := by omega
        have h0 : celS C (rndF R C p j t s n) (t + n) j = 0 := Classical.byContradiction fun h => hc ⟨h3, h⟩
        rw [h0]
        exact ⟨Int.le_refl _, by omega⟩
end Go.Proofs.Ytpelnfenfeoeeaa
end

section
/-
  Plain mathematics of chapter 12: the whole of the work towards a Hermite form, and what it ends in. Nothing of a program is used.
-/
namespace Go.Proofs.Ytpelnfenfeoeeaa
def aloneB (R C p j t : Nat) (s : HSt) : Bool := (List.range R).all fun i => decide (i < t ∨ i = p ∨ celS C s i j = 0)
theorem aloneB_says {R C p j t : Nat} {s : HSt} (h : aloneB R C p j t s = true) {i : Nat} (hi : i < R) (ht : t ≤ i) (hne : i ≠ p) : celS C s i j = 0 := by
  unfold aloneB at h
  rw [List.all_eq_true] at h
  have := h i (List.mem_range.mpr hi)
  rw [decide_eq_true_eq] at this
  rcases this with h1 | h1 | h1
  · omega
  · exact absurd h1 hne
  · exact h1
theorem aloneB_true {R C p j t : Nat} {s : HSt} (h : ∀ i, i < R → t ≤ i → i ≠ p → celS C s i j = 0) : aloneB R C p j t s = true := by
  unfold aloneB
  rw [List.all_eq_true]
  intro i hi
  rw [decide_eq_true_eq]
  rcases Nat.lt_or_ge i t with h1 | h1
  · exact .inl h1
  · by_cases h2 : i = p
    · exact .inr (.inl h2)
    · exact .inr (.inr (h i (List.mem_range.mp hi) h1 h2))
theorem aloneB_false {R C p j t : Nat} {s : HSt} {i : Nat} (hi : i < R) (ht : t ≤ i) (hne : i ≠ p) (hz : celS C s i j ≠ 0) : aloneB R C p j t s = false := by
  cases h : aloneB R C p j t s with
  | false => rfl
  | true => exact absurd (aloneB_says h hi ht hne) hz
def leastS (R C j t : Nat) (s : HSt) : Int := leastF (fun i => celS C s i j) t (R - t)
def LeastP (R C j t : Nat) (s : HSt) (p : Nat) : Prop := leastS R C j t s = (p : Int) ∧ t ≤ p ∧ p < R ∧ celS C s p j ≠ 0 ∧ ∀ i, t ≤ i → i < R → celS C s i j ≠ 0 → (celS C s p j).natAbs ≤ (celS C s i j).natAbs
theorem leastS_says (R C j t : Nat) (s : HSt) (ht : t ≤ R) : (leastS R C j t s = -1 ∧ ∀ i, t ≤ i → i < R → celS C s i j = 0) ∨ ∃ p, LeastP R C j t s p := by
  rcases leastF_says (fun i => celS C s i j) t (R - t) with ⟨h1, h2⟩ | ⟨p, h1, h2, h3, h4, h5⟩
  · exact .inl ⟨h1, fun i a b => h2 i a (by omega)⟩
  · exact .inr ⟨p, h1, h2, by omega, h4, fun i a b hne => h5 i a (by omega) hne⟩
def rndA (R C p j t : Nat) (s : HSt) : HSt := rndF R C p j t s (R - t)
def loopF (R C j t : Nat) : Nat → HSt → Nat → Option (HSt × Nat)
  | 0, _, _ => none
  | f + 1, s, p => if aloneB R C p j t s = true then some (s, p) else if okS (rndA R C p j t s) = true then loopF R C j t f (rndA R C p j t s) (leastS R C j t (rndA R C p j t s)).toNat else none
def Fuel (R C j t f : Nat) (s : HSt) (p : Nat) : Prop := 1 ≤ f ∧ (aloneB R C p j t s = true ∨ (celS C s p j).natAbs < f)
theorem Fuel.start (R C j t : Nat) (s : HSt) (p : Nat) : Fuel R C j t ((celS C s p j).natAbs + 1) s p := ⟨by omega, .inr (by omega)⟩
theorem loopF_alone {R C j t f : Nat} {s : HSt} {p : Nat} (hf : 1 ≤ f) (h : aloneB R C p j t s = true) : loopF R C j t f s p = some (s, p) := by
  obtain ⟨f, rfl⟩ : ∃ g, f = g + 1 := ⟨f - 1, by omega⟩
  exact if_pos h
theorem loopF_bad {R C j t f : Nat} {s : HSt} {p : Nat} (h : aloneB R C p j t s = false) (ho : okS (rndA R C p j t s) = false) : loopF R C j t f s p = none := by
  rcases f with _ | f
  · rfl
  · show (if _ then _ else _) = _
    rw [if_neg (by rw [h]; decide), if_neg (by rw [ho]; decide)]
theorem loopF_step {R C j t f : Nat} {s : HSt} {p p' : Nat} (h : aloneB R C p j t s = false) (ho : okS (rndA R C p j t s) = true) (hp : leastS R C j t (rndA R C p j t s) = (p' : Int)) : loopF R C j t (f + 1) s p = loopF R C j t f (rndA R C p j t s) p' := by
  show (if _ then _ else _) = _
  rw [if_neg (by rw [h]; decide), if_pos ho, hp]; rfl
section
variable {R C j t : Nat} {M : Mx} {s : HSt} {q : Nat → Nat}
theorem loop_next {p f : Nat} (hF : Fin2 R C M s) (hI : HInv R C (mxC C s.1) q t j) (hj : j < C) (hp : p < R) (htp : t ≤ p) (hpz : celS C s p j ≠ 0) (ha : aloneB R C p j t s = false) (hfu : Fuel R C j t (f + 1) s p) (ho : okS (rndA R C p j t s) = true) :
    Fin2 R C M (rndA R C p j t s) ∧ HInv R C (mxC C (rndA R C p j t s).1) q t j ∧ ∃ p', LeastP R C j t (rndA R C p j t s) p' ∧ Fuel R C j t f (rndA R C p j t s) p' := by
  obtain ⟨g1, g2, g3, -, g5⟩ := rndF_says hF hI hj hp htp hpz (R - t) (by omega) ho
  change Fin2 R C M (rndA R C p j t s) at g1
  change celS C (rndA R C p j t s) p j = _ at g3
  have g5 : ∀ i, t ≤ i → i < R → i ≠ p → 0 ≤ celS C (rndA R C p j t s) i j ∧ celS C (rndA R C p j t s) i j < ((celS C s p j).natAbs : Int) := fun i h1 h2 h3 => g5 i h1 (by omega) h3
  refine ⟨g1, g2, ?_⟩
  have hfu : (celS C s p j).natAbs < f + 1 := by
    rcases hfu.2 with h | h
    · rw [h] at ha; cases ha
    · exact h
  generalize rndA R C p j t s = u at g1 g3 g5 ⊢
  rcases leastS_says R C j t u (by omega) with ⟨h1, h2⟩ | ⟨p', hL⟩
  · exact absurd (h2 p htp hp) (by rw [g3]; exact hpz)
  · refine ⟨p', hL, by omega, ?_⟩
    obtain ⟨-, l2, l3, l4, l5⟩ := hL
    rcases Bool.eq_false_or_eq_true (aloneB R C p' j t u) with hb | hb
    · exact .inl hb
    · refine .inr ?_
      by_cases e : p' = p
      · subst e
        refine absurd hb ?_
        rw [aloneB_true fun i hi hti hne => Classical.byContradiction fun hz => ?_]
        · decide
        · have a := g5 i hti hi hne
          have b := l5 i hti hi hz
          rw [g3] at b
          omega
      · have a := g5 p' l2 l3 e
        omega
theorem loopF_says (hj : j < C) : ∀ (f : Nat) (s : HSt) (p : Nat) {s' : HSt} {p' : Nat}, Fin2 R C M s → HInv R C (mxC C s.1) q t j → p < R → t ≤ p → celS C s p j ≠ 0 → loopF R C j t f s p = some (s', p') →
    Fin2 R C M s' ∧ HInv R C (mxC C s'.1) q t j ∧ p' < R ∧ t ≤ p' ∧ celS C s' p' j ≠ 0 ∧ aloneB R C p' j t s' = true
  | 0, _, _, _, _, _, _, _, _, _, h => by cases h
  | f + 1, s, p, s', p', hF, hI, hp, htp, hpz, h => by
    rcases Bool.eq_false_or_eq_true (aloneB R C p j t s) with ha | ha
    · rw [loopF_alone (by omega) ha] at h
      cases h
      exact ⟨hF, hI, hp, htp, hpz, ha⟩
    · rcases Bool.eq_false_or_eq_true (okS (rndA R C p j t s)) with ho | ho
      · obtain ⟨g1, g2, g3, -, -⟩ := rndF_says hF hI hj hp htp hpz (R - t) (by omega) ho
        rcases leastS_says R C j t (rndA R C p j t s) (by omega) with ⟨h1, h2⟩ | ⟨p2, hL⟩
        · exact absurd (h2 p htp hp) (by show celS C (rndF R C p j t s (R - t)) p j ≠ 0; rw [g3]; exact hpz)
        · rw [loopF_step ha ho hL.1] at h
          exact loopF_says hj f (rndA R C p j t s) p2 g1 g2 hL.2.2.1 hL.2.1 hL.2.2.2.1 h
      · rw [loopF_bad ha ho] at h; cases h
def swS (R C p t : Nat) (s : HSt) : HSt := if p ≠ t then op2 R C 0 p t 0 s else s
def ngS (R C j t : Nat) (s : HSt) : HSt := if celS C s t j < 0 then op2 R C 1 t t 0 s else s
def upF (R C j t : Nat) (s : HSt) : Nat → HSt
  | 0 => s
  | n + 1 => op2 R C 2 n t (-(celS C (upF R C j t s n) n j / celS C (upF R C j t s n) t j)) (upF R C j t s n)
theorem swS_siz {p : Nat} (h : Siz R C s) : Siz R C (swS R C p t s) := by
  unfold swS; split
  · exact h.op _ _ _ _
  · exact h
theorem ngS_siz (h : Siz R C s) : Siz R C (ngS R C j t s) := by
  unfold ngS; split
  · exact h.op _ _ _ _
  · exact h
theorem upF_siz (h : Siz R C s) : ∀ n, Siz R C (upF R C j t s n)
  | 0 => h
  | n + 1 => (upF_siz h n).op _ _ _ _
theorem upF_back (h : Siz R C s) (ht : t < R) : ∀ n, n ≤ R → okS (upF R C j t s n) = true → okS s = true
  | 0, _, ho => ho
  | n + 1, hn, ho => upF_back h ht n (by omega) (okS_back (upF_siz h n) (by omega) ht ho)
theorem ngS_back (h : Siz R C s) (ht : t < R) (ho : okS (ngS R C j t s) = true) : okS s = true := by
  unfold ngS at ho
  split at ho
  · exact okS_back h ht ht ho
  · exact ho
theorem swS_says {p : Nat} (hF : Fin2 R C M s) (hI : HInv R C (mxC C s.1) q t j) (hj : j < C) (hp : p < R) (htp : t ≤ p) (hpz : celS C s p j ≠ 0) (ha : aloneB R C p j t s = true) (ho : okS (swS R C p t s) = true) :
    Fin2 R C M (swS R C p t s) ∧ HInv R C (mxC C (swS R C p t s).1) q t j ∧ celS C (swS R C p t s) t j ≠ 0 ∧ ∀ i, t < i → i < R → celS C (swS R C p t s) i j = 0 := by
  by_cases e : p = t
  · have es : swS R C p t s = s := by unfold swS; rw [if_neg (fun h => h e)]
    rw [es]
    subst e
    exact ⟨hF, hI, hpz, fun i h1 h2 => aloneB_says ha h2 (by omega) (by omega)⟩
  · have es : swS R C p t s = op2 R C 0 p t 0 s := by unfold swS; rw [if_pos e]
    rw [es] at ho ⊢
    obtain ⟨k1, k2⟩ := hF.op (.inl rfl) hp (by omega) (fun _ => e) (by decide) ho
    refine ⟨k1, (hI.opSwap htp hp (Nat.le_refl _) (by omega)).congr fun i b hi hb => k2 i b hi (by omega), ?_, fun i h1 h2 => ?_⟩
    · rw [k2 t j (by omega) hj]
      unfold opX
      rw [if_pos rfl, if_neg (Ne.symm e), if_pos rfl]; exact hpz
    · rw [k2 i j h2 hj]
      unfold opX
      rw [if_pos rfl]
      by_cases e2 : i = p
      · rw [if_pos e2]; exact aloneB_says ha (by omega) (Nat.le_refl _) (Ne.symm e)
      · rw [if_neg e2, if_neg (by omega)]; exact aloneB_says ha h2 (by omega) e2
theorem ngS_says (hF : Fin2 R C M s) (hI : HInv R C (mxC C s.1) q t j) (hj : j < C) (ht : t < R) (hpz : celS C s t j ≠ 0) (hz : ∀ i, t < i → i < R → celS C s i j = 0) (ho : okS (ngS R C j t s) = true) :
    Fin2 R C M (ngS R C j t s) ∧ HInv R C (mxC C (ngS R C j t s).1) q t j ∧ 0 < celS C (ngS R C j t s) t j ∧ ∀ i, t < i → i < R → celS C (ngS R C j t s) i j = 0 := by
  by_cases e : celS C s t j < 0
  · have es : ngS R C j t s = op2 R C 1 t t 0 s := by unfold ngS; rw [if_pos e]
    rw [es] at ho ⊢
    obtain ⟨k1, k2⟩ := hF.op (.inr (.inl rfl)) ht ht (fun h => absurd rfl h) (by decide) ho
    refine ⟨k1, (hI.opNeg (z := 0) (J := t) (Nat.le_refl _) ht).congr fun i b hi hb => k2 i b hi (by omega), ?_, fun i h1 h2 => ?_⟩
    · rw [k2 t j ht hj]
      unfold opX
      rw [if_neg (by decide), if_pos rfl, if_pos rfl]
      change 0 < - celS C s t j
      omega
    · rw [k2 i j h2 hj]
      unfold opX
      rw [if_neg (by decide), if_pos rfl, if_neg (by omega)]; exact hz i h1 h2
  · have es : ngS R C j t s = s := by unfold ngS; rw [if_neg e]
    rw [es]
    exact ⟨hF, hI, by omega, hz⟩
theorem upF_says (hF : Fin2 R C M s) (hI : HInv R C (mxC C s.1) q t j) (hj : j < C) (ht : t < R) (hp : 0 < celS C s t j) : ∀ n, n ≤ t → okS (upF R C j t s n) = true →
    Fin2 R C M (upF R C j t s n) ∧ HInv R C (mxC C (upF R C j t s n).1) q t j ∧ (∀ i, n ≤ i → i < R → celS C (upF R C j t s n) i j = celS C s i j) ∧ ∀ i, i < n → 0 ≤ celS C (upF R C j t s n) i j ∧ celS C (upF R C j t s n) i j < celS C s t j
  | 0, _, _ => ⟨hF, hI, fun _ _ _ => rfl, fun i hi => by omega⟩
  | n + 1, hn, ho => by
    obtain ⟨g1, g2, g3, g4⟩ := upF_says hF hI hj ht hp n (by omega) (okS_back (upF_siz hF.siz n) (by omega) ht ho)
    have et := g3 t (by omega) ht
    have hy : celS C (upF R C j t s n) t j ≠ 0 := by rw [et]; omega
    obtain ⟨k1, k2⟩ := g1.op (.inr (.inr rfl)) (by omega : n < R) ht (fun _ => by omega) (quot_num (g1.num n j) hy) ho
    have ql := quot_left (x := celS C (upF R C j t s n) n j) hy
    have ce : ∀ i b, i < R → b < C → i ≠ n → celS C (upF R C j t s (n + 1)) i b = celS C (upF R C j t s n) i b := fun i b hi hb hne => by
      refine (k2 i b hi hb).trans ?_
      unfold opX
      rw [if_neg (by decide), if_neg (by decide), if_neg hne]; rfl
    have cn : celS C (upF R C j t s (n + 1)) n j = celS C (upF R C j t s n) n j % celS C (upF R C j t s n) t j := by
      refine (k2 n j (by omega) hj).trans ?_
      rw [← ql.1]
      unfold opX
      rw [if_neg (by decide), if_neg (by decide), if_pos rfl]; rfl
    refine ⟨k1, (g2.opAdd (Nat.le_refl _) ht).congr fun i b hi hb => k2 i b hi (by omega), fun i h1 h2 => by rw [ce i j h2 hj (by omega)]; exact g3 i (by omega) h2, fun i hi => ?_⟩
    rcases Nat.lt_or_ge i n with h4 | h4
    · rw [ce i j (by omega) hj (by omega)]; exact g4 i h4
    · obtain rfl : i = n := by omega
      rw [cn]
      rw [et] at ql ⊢
      omega
def pvS (R C j t p : Nat) (s : HSt) : HSt := upF R C j t (ngS R C j t (swS R C p t s)) t
def colF (R C j t : Nat) (s : HSt) : Option (HSt × Nat) :=
  if leastS R C j t s < 0 then some (s, t)
  else match loopF R C j t ((celS C s (leastS R C j t s).toNat j).natAbs + 1) s (leastS R C j t s).toNat with
    | none => none
    | some (s1, p) => if okS (pvS R C j t p s1) = true then some (pvS R C j t p s1, t + 1) else none
theorem colF_says {s' : HSt} {t' : Nat} (hF : Fin2 R C M s) (hI : HInv R C (mxC C s.1) q t j) (hj : j < C) (ht : t < R) (h : colF R C j t s = some (s', t')) : Fin2 R C M s' ∧ ∃ q', HInv R C (mxC C s'.1) q' t' (j + 1) := by
  unfold colF at h
  rcases leastS_says R C j t s (by omega) with ⟨h1, h2⟩ | ⟨p, hL⟩
  · rw [if_pos (by omega)] at h
    cases h
    exact ⟨hF, q, hI.skip hj h2⟩
  · have e : (leastS R C j t s).toNat = p := by have := hL.1; omega
    rw [if_neg (by have := hL.1; omega), e] at h
    cases hl : loopF R C j t ((celS C s p j).natAbs + 1) s p with
    | none => rw [hl] at h; cases h
    | some z =>
      obtain ⟨s1, p1⟩ := z
      rw [hl] at h
      dsimp only at h
      obtain ⟨f1, i1, a1, a2, a3, a4⟩ := loopF_says hj _ s p hF hI hL.2.2.1 hL.2.1 hL.2.2.2.1 hl
      by_cases ho : okS (pvS R C j t p1 s1) = true
      · rw [if_pos ho] at h
        cases h
        have o2 := upF_back (ngS_siz (swS_siz f1.siz)) ht t (by omega) ho
        have o1 := ngS_back (swS_siz f1.siz) ht o2
        obtain ⟨f2, i2, b1, b2⟩ := swS_says f1 i1 hj a1 a2 a3 a4 o1
        obtain ⟨f3, i3, c1, c2⟩ := ngS_says f2 i2 hj ht b1 b2 o2
        obtain ⟨f4, i4, d1, d2⟩ := upF_says f3 i3 hj ht c1 t (Nat.le_refl _) ho
        have et := d1 t (Nat.le_refl _) ht
        refine ⟨f4, _, i4.put hj ht (by change 0 < celS C (pvS R C j t p1 s1) t j; unfold pvS; rw [et]; exact c1) (fun i h1 h2 => (d1 i (by omega) h2).trans (c2 i h1 h2)) fun i hi => ?_⟩
        have := d2 i hi
        refine ⟨this.1, ?_⟩
        change celS C (upF R C j t (ngS R C j t (swS R C p1 t s1)) t) i j < celS C (upF R C j t (ngS R C j t (swS R C p1 t s1)) t) t j
        rw [et]; exact this.2
      · rw [if_neg ho] at h; cases h
end
def allF (R C : Nat) : Nat → Nat → Nat → HSt → Option HSt
  | 0, _, _, s => some s
  | n + 1, j, t, s => if t < R then (match colF R C j t s with | none => none | some (s', t') => allF R C n (j + 1) t' s') else some s
theorem allF_says {R C : Nat} {M : Mx} : ∀ (n j t : Nat) (s : HSt) {s' : HSt} {q : Nat → Nat}, j + n = C → Fin2 R C M s → HInv R C (mxC C s.1) q t j → allF R C n j t s = some s' → Fin2 R C M s' ∧ ∃ q' t', HerP R C (mxC C s'.1) q' t'
  | 0, j, t, s, s', q, hn, hF, hI, h => by
    cases h
    exact ⟨hF, q, t, hI.done (.inr (by omega))⟩
  | n + 1, j, t, s, s', q, hn, hF, hI, h => by
    by_cases ht : t < R
    · have e : allF R C (n + 1) j t s = (match colF R C j t s with | none => none | some (s', t') => allF R C n (j + 1) t' s') := if_pos ht
      rw [e] at h
      cases hc : colF R C j t s with
      | none => rw [hc] at h; cases h
      | some z =>
        obtain ⟨s1, t1⟩ := z
        rw [hc] at h
        obtain ⟨f1, q1, i1⟩ := colF_says hF hI (by omega) ht hc
        exact allF_says n (j + 1) t1 s1 (by omega) f1 i1 h
    · have e : allF R C (n + 1) j t s = some s := if_neg ht
      rw [e] at h
      cases h
      have := hI.le
      exact ⟨hF, q, t, hI.done (.inl (by omega))⟩
def herX (R C : Nat) (xs : List Int) : Option HSt := allF R C C 0 0 (xs, idL R R)
theorem herX_says {R C : Nat} {xs : List Int} {s : HSt} (hl : xs.length = R * C) (hn : nums xs = true) (h : herX R C xs = some s) : Fin2 R C (mxC C xs) s ∧ ∃ q t, HerP R C (mxC C s.1) q t := by
  refine allF_says C 0 0 (xs, idL R R) (q := fun _ => 0) (by omega) ⟨⟨hl, idL_length R R, MkOr.of_nums hn, MkOr.of_nums (idL_nums R)⟩, ?_, ?_⟩ (HInv.start _ _ _ _) h
  · unfold okS; rw [hn, idL_nums]; rfl
  · exact (Acc.start R C (mxC C xs)).congr (mxL_idL R).symm fun _ _ _ _ => rfl
end Go.Proofs.Ytpelnfenfeoeeaa
end

section
/-
  Plain mathematics of chapter 12: a Hermite form is its own; what the law of Hermite forms says. Nothing of a program is used.
-/
namespace Go.Proofs.Ytpelnfenfeoeeaa
theorem opL_none {I J C : Nat} {xs : List Int} (h : nums xs = true) : opL 2 I J 0 C xs = xs := by
  refine list_getD (opL_length _ _ _ _ _ _) fun p hp => ?_
  rw [opL_length] at hp
  rw [opL_getD hp]
  unfold opAt
  rw [if_neg (by decide), if_neg (by decide)]
  split
  · rw [mulB_num (nums_def h _) (by decide), Int.mul_zero, fitB_num (by decide), addB_num (nums_def h _) (by decide), Int.add_zero, fitB_num (nums_def h _)]
  · rfl
theorem op2_none {R C I J : Nat} {s : HSt} (h : okS s = true) : op2 R C 2 I J 0 s = s := by
  obtain ⟨a, b⟩ := okS_and h
  unfold op2
  rw [opL_none a, opL_none b]
section
variable {R C j t : Nat} {s : HSt}
end
end Go.Proofs.Ytpelnfenfeoeeaa
end

section
/-
  Chapter 12: what a walk of HermiteForm needs of its steps. Nothing of a program is used.
-/
namespace Go.Proofs.Ytpelnfenfeoeeaa
open Go.RowKit
theorem mulB_neg {x : Int} (h : NumP x) : NumP (mulB x (-1)) := by
  have h' := h
  unfold NumP at h'
  rw [mulB_num h (show NumP (-1) by unfold NumP; omega), fitB_num (show NumP (x * -1) by unfold NumP; omega)]
  unfold NumP
  omega
theorem celS_other {R C I J i j : Nat} {z : Int} {s : HSt} (h : Siz R C s) (hi : i < R) (hj : j < C) (hne : i ≠ I) : celS C (op2 R C 2 I J z s) i j = celS C s i j := by
  have hp : i * C + j < s.1.length := by rw [h.l1]; exact idx_lt hi hj
  show (opL 2 I J z C s.1).getD (i * C + j) 0 = _
  rw [opL_getD hp]
  unfold opAt
  rw [if_neg (by decide), if_neg (by decide), idx_div hj, if_neg hne]
  rfl
theorem ok_plain {R C I J : Nat} {k z : Int} {s : HSt} (hk : k = 0 ∨ k = 1) (ho : okS s = true) : okS (op2 R C k I J z s) = true := by
  obtain ⟨a, b⟩ := okS_and ho
  have key : ∀ (D : Nat) (xs : List Int), nums xs = true → nums (opL k I J z D xs) = true := fun D xs hx => nums_true fun p hp => by
    rw [opL_length] at hp
    rw [opL_getD hp]
    unfold opAt
    rcases hk with rfl | rfl
    · rw [if_pos rfl]
      split
      · exact nums_def hx _
      · split
        · exact nums_def hx _
        · exact nums_def hx _
    · rw [if_neg (by decide), if_pos rfl]
      split
      · exact mulB_neg (nums_def hx _)
      · exact nums_def hx _
  unfold okS
  show (nums (opL k I J z C s.1) && nums (opL k I J z R s.2)) = true
  rw [key C _ a, key R _ b]; rfl
theorem ok_sw {R C p t : Nat} {s : HSt} (ho : okS s = true) : okS (swS R C p t s) = true := by
  unfold swS; split
  · exact ok_plain (.inl rfl) ho
  · exact ho
theorem ok_ng {R C j t : Nat} {s : HSt} (ho : okS s = true) : okS (ngS R C j t s) = true := by
  unfold ngS; split
  · exact ok_plain (.inr rfl) ho
  · exact ho
section
variable {R C j t p : Nat} {s : HSt}
theorem rndF_keep (h : Siz R C s) (hj : j < C) : ∀ n, t + n ≤ R → (p < R → celS C (rndF R C p j t s n) p j = celS C s p j) ∧ ∀ i, i < R → t + n ≤ i → celS C (rndF R C p j t s n) i j = celS C s i j
  | 0, _ => ⟨fun _ => rfl, fun _ _ _ => rfl⟩
  | n + 1, hn => by
    obtain ⟨g1, g2⟩ := rndF_keep h hj n (by omega)
    have hs := rndF_siz (p := p) (j := j) (t := t) h n
    by_cases hc : t + n ≠ p ∧ celS C (rndF R C p j t s n) (t + n) j ≠ 0
    · rw [show rndF R C p j t s (n + 1) = op2 R C 2 (t + n) p (-(celS C (rndF R C p j t s n) (t + n) j / celS C (rndF R C p j t s n) p j)) (rndF R C p j t s n) from if_pos hc]
      exact ⟨fun hp => (celS_other hs hp hj (fun e => hc.1 e.symm)).trans (g1 hp), fun i hi h2 => (celS_other hs hi hj (by omega)).trans (g2 i hi (by omega))⟩
    · rw [show rndF R C p j t s (n + 1) = rndF R C p j t s n from if_neg hc]
      exact ⟨g1, fun i hi h2 => g2 i hi (by omega)⟩
theorem rnd_skip {n : Nat} (h : Siz R C s) (hj : j < C) (hn : t + n < R) (hc : t + n = p ∨ celS C s (t + n) j = 0) : rndF R C p j t s (n + 1) = rndF R C p j t s n := by
  have e := (rndF_keep (p := p) h hj n (by omega)).2 (t + n) hn (Nat.le_refl _)
  show (if _ then _ else _) = _
  rw [if_neg]
  rw [e]
  rintro ⟨h1, h2⟩
  rcases hc with h3 | h3
  · exact h1 h3
  · exact h2 h3
theorem rnd_do {n : Nat} (h : Siz R C s) (hj : j < C) (hp : p < R) (hn : t + n < R) (h1 : t + n ≠ p) (h2 : celS C s (t + n) j ≠ 0) : rndF R C p j t s (n + 1) = op2 R C 2 (t + n) p (-(celS C s (t + n) j / celS C s p j)) (rndF R C p j t s n) := by
  have e := (rndF_keep (p := p) (t := t) h hj n (by omega)).2 (t + n) hn (Nat.le_refl _)
  have e2 := (rndF_keep (p := p) (t := t) h hj n (by omega)).1 hp
  show (if _ then _ else _) = _
  rw [if_pos ⟨h1, by rw [e]; exact h2⟩, e, e2]
theorem upF_keep (h : Siz R C s) (hj : j < C) (ht : t < R) : ∀ n, n ≤ t → celS C (upF R C j t s n) t j = celS C s t j ∧ ∀ i, i < R → n ≤ i → celS C (upF R C j t s n) i j = celS C s i j
  | 0, _ => ⟨rfl, fun _ _ _ => rfl⟩
  | n + 1, hn => by
    obtain ⟨g1, g2⟩ := upF_keep h hj ht n (by omega)
    have hs := upF_siz (j := j) (t := t) h n
    exact ⟨(celS_other hs ht hj (by omega)).trans g1, fun i hi h2 => (celS_other hs hi hj (by omega)).trans (g2 i hi (by omega))⟩
theorem up_do {n : Nat} (h : Siz R C s) (hj : j < C) (ht : t < R) (hn : n < t) : upF R C j t s (n + 1) = op2 R C 2 n t (-(celS C s n j / celS C s t j)) (upF R C j t s n) := by
  obtain ⟨g1, g2⟩ := upF_keep h hj ht n (by omega)
  show op2 R C 2 n t (-(celS C (upF R C j t s n) n j / celS C (upF R C j t s n) t j)) _ = _
  rw [g1, g2 n (by omega) (Nat.le_refl _)]
theorem all_full {n : Nat} (h : ¬ t < R) : allF R C n j t s = some s := by
  cases n with
  | zero => rfl
  | succ n => exact if_neg h
theorem all_none {n : Nat} (h : t < R) (hc : colF R C j t s = none) : allF R C (n + 1) j t s = none := by
  show (if _ then _ else _) = _
  rw [if_pos h, hc]
theorem all_some {n : Nat} {s' : HSt} {t' : Nat} (h : t < R) (hc : colF R C j t s = some (s', t')) : allF R C (n + 1) j t s = allF R C n (j + 1) t' s' := by
  show (if _ then _ else _) = _
  rw [if_pos h, hc]
theorem col_skip (h : leastS R C j t s = -1) : colF R C j t s = some (s, t) := if_pos (by omega)
theorem col_go (h : leastS R C j t s = (p : Int)) : colF R C j t s = match loopF R C j t ((celS C s p j).natAbs + 1) s p with
    | none => none
    | some (s1, p) => if okS (pvS R C j t p s1) = true then some (pvS R C j t p s1, t + 1) else none := by
  unfold colF
  rw [if_neg (by omega), h, Int.toNat_natCast]
  first | done | rfl
theorem col_none (h : leastS R C j t s = (p : Int)) (hl : loopF R C j t ((celS C s p j).natAbs + 1) s p = none) : colF R C j t s = none := by rw [col_go h, hl]
theorem col_bad {s1 : HSt} {p1 : Nat} (h : leastS R C j t s = (p : Int)) (hl : loopF R C j t ((celS C s p j).natAbs + 1) s p = some (s1, p1)) (ho : okS (pvS R C j t p1 s1) = false) : colF R C j t s = none := by
  rw [col_go h, hl]
  show (if _ then _ else _) = _
  rw [if_neg (by rw [ho]; decide)]
theorem col_ok {s1 : HSt} {p1 : Nat} (h : leastS R C j t s = (p : Int)) (hl : loopF R C j t ((celS C s p j).natAbs + 1) s p = some (s1, p1)) (ho : okS (pvS R C j t p1 s1) = true) : colF R C j t s = some (pvS R C j t p1 s1, t + 1) := by
  rw [col_go h, hl]
  show (if _ then _ else _) = _
  rw [if_pos ho]
end
theorem herX_start {R C : Nat} {xs : List Int} (hl : xs.length = R * C) (hn : nums xs = true) : Fin2 R C (mxC C xs) (xs, idL R R) := by
  refine ⟨⟨hl, idL_length R R, MkOr.of_nums hn, MkOr.of_nums (idL_nums R)⟩, ?_, ?_⟩
  · unfold okS; rw [hn, idL_nums]; rfl
  · exact (Acc.start R C (mxC C xs)).congr (mxL_idL R).symm fun _ _ _ _ => rfl
end Go.Proofs.Ytpelnfenfeoeeaa
end

section
/-
  Plain mathematics of chapter 7: a row that is written cell by cell. Nothing of a program is used.
-/
namespace Go.Proofs.Ytpelnfenfeoeeaa
def rowTo (r c i : Nat) (v : Nat → Int) (xs : List Int) (k : Nat) : List Int := tab r c fun p q => if p = i ∧ q < k then v q else mxC c xs p q
def rowL (r c i : Nat) (v : Nat → Int) (xs : List Int) : List Int := tab r c fun p q => if p = i then v q else mxC c xs p q
theorem rowTo_length (r c i : Nat) (v : Nat → Int) (xs : List Int) (k : Nat) : (rowTo r c i v xs k).length = r * c := tab_length _ _ _
theorem rowTo_at {r c i : Nat} {v : Nat → Int} {xs : List Int} {k p q : Nat} (hp : p < r) (hq : q < c) : (rowTo r c i v xs k).getD (p * c + q) 0 = if p = i ∧ q < k then v q else mxC c xs p q := tab_at r c _ hp hq
theorem rowTo_old {r c i : Nat} {v : Nat → Int} {xs : List Int} {k p q : Nat} (hp : p < r) (hq : q < c) (h : p ≠ i ∨ k ≤ q) : (rowTo r c i v xs k).getD (p * c + q) 0 = xs.getD (p * c + q) 0 := by
  rw [rowTo_at hp hq, if_neg (by omega)]; rfl
theorem rowTo_zero {r c i : Nat} {v : Nat → Int} {xs : List Int} (hx : xs.length = r * c) : rowTo r c i v xs 0 = xs := by
  refine (tab_ext hx fun p q _ _ => ?_).symm
  rw [if_neg (by omega)]; rfl
theorem rowTo_step {r c i : Nat} {v : Nat → Int} {xs : List Int} {k : Nat} (hi : i < r) (hk : k < c) : (rowTo r c i v xs k).set (i * c + k) (v k) = rowTo r c i v xs (k + 1) := by
  refine tab_ext (by rw [List.length_set, rowTo_length]) fun p q hp hq => ?_
  rw [getD_set _ _ _ _ (by rw [rowTo_length]; exact idx_lt hi hk), rowTo_at hp hq]
  by_cases e : p * c + q = i * c + k
  · obtain ⟨rfl, rfl⟩ := idx_inj hq hk e
    rw [if_pos (by omega), if_pos (by omega)]
  · have ne : ¬ (p = i ∧ q = k) := by rintro ⟨rfl, rfl⟩; exact e rfl
    rw [if_neg (by omega)]
    by_cases h : p = i ∧ q < k
    · rw [if_pos h, if_pos (by omega)]
    · rw [if_neg h, if_neg (by omega)]
theorem rowTo_all {r c i : Nat} {v : Nat → Int} {xs : List Int} : rowTo r c i v xs c = rowL r c i v xs := by
  refine tab_ext (rowTo_length _ _ _ _ _ _) fun p q hp hq => ?_
  rw [rowTo_at hp hq]
  by_cases h : p = i
  · rw [if_pos ⟨h, hq⟩, if_pos h]
  · rw [if_neg (fun h1 => h h1.1), if_neg h]
theorem rowL_length (r c i : Nat) (v : Nat → Int) (xs : List Int) : (rowL r c i v xs).length = r * c := tab_length _ _ _
theorem rowL_own {r c i q : Nat} {v : Nat → Int} {xs : List Int} (hi : i < r) (hq : q < c) : mxC c (rowL r c i v xs) i q = v q := by unfold rowL; rw [mxC_tab hi hq, if_pos rfl]
theorem rowL_oth {r c i p q : Nat} {v : Nat → Int} {xs : List Int} (hp : p < r) (hq : q < c) (h : p ≠ i) : mxC c (rowL r c i v xs) p q = mxC c xs p q := by unfold rowL; rw [mxC_tab hp hq, if_neg h]
theorem rowL_congr {r c i : Nat} {u v : Nat → Int} {xs : List Int} (h : ∀ q, q < c → u q = v q) : rowL r c i u xs = rowL r c i v xs := by
  refine tab_ext (rowL_length _ _ _ _ _) fun p q hp hq => ?_
  by_cases e : p = i
  · subst e; rw [if_pos rfl]; exact (rowL_own hp hq).trans (h q hq)
  · rw [if_neg e]; exact rowL_oth hp hq e
theorem rowL_self {r c i : Nat} {v : Nat → Int} {xs : List Int} (hx : xs.length = r * c) (h : i < r → ∀ q, q < c → v q = mxC c xs i q) : rowL r c i v xs = xs := by
  refine (tab_ext hx fun p q hp hq => ?_).symm
  by_cases e : p = i
  · subst e; rw [if_pos rfl, h hp q hq]; rfl
  · rw [if_neg e]; rfl
theorem rowL_twice {r c i : Nat} {u v : Nat → Int} {xs : List Int} : rowL r c i u (rowL r c i v xs) = rowL r c i u xs := by
  refine tab_ext (rowL_length _ _ _ _ _) fun p q hp hq => ?_
  by_cases e : p = i
  · subst e; rw [if_pos rfl]; exact rowL_own hp hq
  · rw [if_neg e]; exact (rowL_oth hp hq e).trans (rowL_oth hp hq e)
theorem prL_row (r c i : Nat) (xs : List Int) : prL r c i xs = rowL r c i (prV c (mxC c xs i)) xs := rfl
theorem rdL_row (r c t j i : Nat) (xs : List Int) : rdL r c t j i xs = rowL r c i (prV c (rdV j (mxC c xs i) (mxC c xs t))) xs := rfl
theorem rdL_prim {r c t j i : Nat} {xs : List Int} (hi : i < r) : prL r c i (rowL r c i (rdV j (mxC c xs i) (mxC c xs t)) xs) = rdL r c t j i xs := by
  rw [prL_row, rdL_row, rowL_twice]
  exact rowL_congr fun q hq => prV_congr (fun k hk => rowL_own hi hk) q hq
theorem prTo_zero {r c : Nat} {xs : List Int} (hx : xs.length = r * c) : prTo r c 0 xs = xs := by
  refine (tab_ext hx fun p q _ _ => ?_).symm
  rw [if_neg (by omega)]; rfl
theorem prTo_step {r c i : Nat} {xs : List Int} (hi : i < r) : prL r c i (prTo r c i xs) = prTo r c (i + 1) xs := by
  have at_ : ∀ {p q k : Nat}, p < r → q < c → mxC c (prTo r c k xs) p q = if p < k then prV c (mxC c xs p) q else mxC c xs p q := fun hp hq => mxC_tab hp hq
  refine tab_ext (tab_length _ _ _) fun p q hp hq => ?_
  by_cases e : p = i
  · subst e
    rw [if_pos (by omega)]
    refine (rowL_own hp hq).trans (prV_congr (fun k hk => ?_) q hq)
    rw [at_ hp hk, if_neg (by omega)]
  · refine (rowL_oth hp hq e).trans ?_
    rw [at_ hp hq]
    by_cases h : p < i
    · rw [if_pos h, if_pos (by omega)]
    · rw [if_neg h, if_neg (by omega)]
theorem prTo_nums {r c i : Nat} {xs : List Int} (hx : xs.length = r * c) (hn : nums xs = true) : nums (prTo r c i xs) = true := tab_nums fun p q hp hq => by
  by_cases h : p < i
  · rw [if_pos h]; exact prV_num (fun k hk => mx_nums hx hn hp hk) hq
  · rw [if_neg h]; exact mx_nums hx hn hp hq
theorem rowL_nums {r c i : Nat} {v : Nat → Int} {xs : List Int} (hx : xs.length = r * c) (hn : nums xs = true) (hv : ∀ q, q < c → NumP (v q)) : nums (rowL r c i v xs) = true := tab_nums fun p q hp hq => by
  by_cases h : p = i
  · rw [if_pos h]; exact hv q hq
  · rw [if_neg h]; exact mx_nums hx hn hp hq
theorem rowN_iff {c : Nat} {v : Nat → Int} : rowN c v = true ↔ ∀ q, q < c → NumP (v q) := by
  unfold rowN
  constructor
  · intro h q hq
    have := nums_at h (j := q) (by simpa using hq)
    simpa [List.getD, hq] using this
  · intro h
    refine nums_true fun q hq => ?_
    have hq' : q < c := by simpa using hq
    simpa [List.getD, hq'] using h q hq'
theorem elimR_skip {r c t j k i : Nat} {xs : List Int} (h : i = t ∨ mxC c xs i j = 0) : elimR r c t j (k + 1) i xs = elimR r c t j k (i + 1) xs := if_pos h
theorem elimR_on {r c t j k i : Nat} {xs : List Int} (h : ¬ (i = t ∨ mxC c xs i j = 0)) (h2 : rowN c (rdV j (mxC c xs i) (mxC c xs t)) = true) : elimR r c t j (k + 1) i xs = elimR r c t j k (i + 1) (rdL r c t j i xs) := by
  show (if i = t ∨ mxC c xs i j = 0 then _ else if rowN c _ = true then _ else _) = _
  rw [if_neg h, if_pos h2]
theorem elimR_bad {r c t j k i : Nat} {xs : List Int} (h : ¬ (i = t ∨ mxC c xs i j = 0)) (h2 : rowN c (rdV j (mxC c xs i) (mxC c xs t)) ≠ true) : elimR r c t j (k + 1) i xs = none := by
  show (if i = t ∨ mxC c xs i j = 0 then _ else if rowN c _ = true then _ else _) = _
  rw [if_neg h, if_neg h2]
theorem echC_skip {r c k j : Nat} {xs : List Int} {pv : List Nat} (h : pv.length < r) (hf : fstR c j xs (r - pv.length) pv.length = r) : echC r c (k + 1) j xs pv = echC r c k (j + 1) xs pv := by
  show (if pv.length < r then if fstR c j xs (r - pv.length) pv.length = r then _ else _ else _) = _
  rw [if_pos h, if_pos hf]
theorem echC_none {r c k j p : Nat} {xs : List Int} {pv : List Nat} (h : pv.length < r) (hf : fstR c j xs (r - pv.length) pv.length = p) (hp : p ≠ r) (he : elimR r c pv.length j r 0 (swC p pv.length c xs) = none) : echC r c (k + 1) j xs pv = none := by
  show (if pv.length < r then if fstR c j xs (r - pv.length) pv.length = r then _ else match elimR r c pv.length j r 0 (swC (fstR c j xs (r - pv.length) pv.length) pv.length c xs) with | none => none | some ys => echC r c k (j + 1) ys (pv ++ [j]) else _) = _
  rw [if_pos h, hf, if_neg hp, he]
theorem echC_on {r c k j p : Nat} {xs ys : List Int} {pv : List Nat} (h : pv.length < r) (hf : fstR c j xs (r - pv.length) pv.length = p) (hp : p ≠ r) (he : elimR r c pv.length j r 0 (swC p pv.length c xs) = some ys) : echC r c (k + 1) j xs pv = echC r c k (j + 1) ys (pv ++ [j]) := by
  show (if pv.length < r then if fstR c j xs (r - pv.length) pv.length = r then _ else match elimR r c pv.length j r 0 (swC (fstR c j xs (r - pv.length) pv.length) pv.length c xs) with | none => none | some ys => echC r c k (j + 1) ys (pv ++ [j]) else _) = _
  rw [if_pos h, hf, if_neg hp, he]
end Go.Proofs.Ytpelnfenfeoeeaa
end

section
/-
  Plain mathematics of chapter 1: Euclid's steps on triples, their sizes, and what they lead to. Nothing of a program is imported.
-/
namespace Go.Proofs.Ytpelnfenfeoeeaa
theorem gcd_sub_mul (g h q : Int) : Int.gcd h (g - q * h) = Int.gcd g h := by
  rw [Int.gcd_comm g h, show g - q * h = g + h * (-q) from by rw [Int.mul_neg, Int.mul_comm h q]; omega]
  exact Int.gcd_add_mul_left_right h g (-q)
theorem gcd_round (x y : Int) : Int.gcd y (x.tmod y) = Int.gcd x y := by
  rw [show x.tmod y = x - x.tdiv y * y from by have := Int.tdiv_mul_add_tmod x y; omega]
  exact gcd_sub_mul x y _
theorem tmod_small (x y : Int) (hy : y ≠ 0) : (x.tmod y).natAbs < y.natAbs := by
  rw [Int.natAbs_tmod]; exact Nat.mod_lt _ (by omega)
theorem ediv_of (n d q r : Int) (hd : 0 < d) (h : n = q * d + r) (h0 : 0 ≤ r) (h1 : r < d) : n / d = q ∧ n % d = r :=
  (Int.ediv_emod_unique hd).2 ⟨by rw [h, Int.mul_comm]; omega, h0, h1⟩
theorem tdiv_up (n d : Int) (hd : 0 < d) (h : 0 ≤ n.tmod d) : n / d = n.tdiv d ∧ n % d = n.tmod d := by
  have e := Int.tdiv_mul_add_tmod n d
  have l := tmod_small n d (by omega)
  exact ediv_of n d _ _ hd (by omega) h (by omega)
theorem tdiv_down (n d : Int) (hd : 0 < d) (h : n.tmod d < 0) : n / d = n.tdiv d - 1 ∧ n % d = n.tmod d + d := by
  have e := Int.tdiv_mul_add_tmod n d
  have l := tmod_small n d (by omega)
  exact ediv_of n d _ _ hd (by rw [Int.sub_mul]; omega) (by omega) (by omega)
theorem tdiv_bd (n d : Int) (h1 : -400000000 ≤ n) (h2 : n ≤ 400000000) : -400000000 ≤ n.tdiv d ∧ n.tdiv d ≤ 400000000 := by
  have q : (n.tdiv d).natAbs ≤ n.natAbs := by rw [Int.natAbs_tdiv]; exact Nat.div_le_self _ _
  omega
theorem ediv_bd (n d : Int) (hd : 0 < d) (h1 : -400000000 ≤ n) (h2 : n ≤ 400000000) : -400000001 ≤ n / d ∧ n / d ≤ 400000000 := by
  have b := tdiv_bd n d h1 h2
  rcases Int.lt_or_le (n.tmod d) 0 with h | h
  · have := (tdiv_down n d hd h).1; omega
  · have := (tdiv_up n d hd h).1; omega
theorem mul_ediv_bd (n d : Int) (hd : 0 < d) : n - d < d * (n / d) ∧ d * (n / d) ≤ n := by
  have e := Int.mul_ediv_add_emod n d
  have l := Int.emod_lt_of_pos n hd
  have l' := Int.emod_nonneg n (show d ≠ 0 by omega)
  omega
theorem iDiv_pos (n d : Int) (hd0 : d ≠ 0) (h : 0 ≤ n.tmod d) : n / d = n.tdiv d ∧ n % d = n.tmod d := by
  rcases Int.lt_or_le 0 d with hd | hd
  · exact tdiv_up n d hd h
  · obtain ⟨c, rfl⟩ : ∃ c, d = -c := ⟨-d, by omega⟩
    rw [Int.ediv_neg, Int.emod_neg, Int.tdiv_neg, Int.tmod_neg]
    rw [Int.tmod_neg] at h
    have := tdiv_up n c (by omega) h
    exact ⟨by rw [this.1], this.2⟩
theorem iDiv_neg (n c : Int) (hc : 0 < c) (h : n.tmod (-c) < 0) : n / -c = n.tdiv (-c) + 1 ∧ n % -c = n.tmod (-c) - -c := by
  rw [Int.ediv_neg, Int.emod_neg, Int.tdiv_neg, Int.tmod_neg]
  rw [Int.tmod_neg] at h
  have := tdiv_down n c hc h
  omega
end Go.Proofs.Ytpelnfenfeoeeaa
end

section
/-
  Chapter 1, in the model: GcdOf.
-/
namespace Go.Proofs.Ytpelnfenfeoeeaa
open Go.RowKit
end Go.Proofs.Ytpelnfenfeoeeaa
end

section
/-
  Chapter 1, in the model: |n|.
-/
namespace Go.Proofs.Ytpelnfenfeoeeaa
open Go.RowKit
theorem tdiv_bdw (n d : Int) (h1 : -4000000000000000000 ≤ n) (h2 : n ≤ 4000000000000000000) : -4000000000000000000 ≤ n.tdiv d ∧ n.tdiv d ≤ 4000000000000000000 := by
  have q : (n.tdiv d).natAbs ≤ n.natAbs := by rw [Int.natAbs_tdiv]; exact Nat.div_le_self _ _
  omega
theorem sAbs_p (n : Int) (w : World) (h1 : 0 ≤ n) (h2 : n ≤ 9223372036854775807) :
    Calls Try.prog 100 #[.int .i64 n] w fun e w' => e = .returned (.int .i64 n) ∧ w = w' := by
  go_enter Try.func100, Try.ntmps100
  go_wp2
  all_goals
    go_ret
    exact ⟨ret_int (by omega), rfl⟩
theorem sAbs_n (n : Int) (w : World) (h1 : 0 < n) (h2 : n ≤ 9223372036854775807) :
    Calls Try.prog 100 #[.int .i64 (-n)] w fun e w' => e = .returned (.int .i64 n) ∧ w = w' := by
  go_enter Try.func100, Try.ntmps100
  go_wp2
  all_goals
    go_ret
    exact ⟨ret_int (by omega), rfl⟩
end Go.Proofs.Ytpelnfenfeoeeaa
end

section
/-
  Chapter 7, in the model: a row made primitive.
-/
namespace Go.Proofs.Ytpelnfenfeoeeaa
set_option maxRecDepth 100000
open Go.RowKit
end Go.Proofs.Ytpelnfenfeoeeaa
end

section
/-
  A row of ints of a call's own, that append may go on with.
-/
namespace Go.Proofs.Ytpelnfenfeoeeaa
open Go.RowKit
def OwnQ (B : Nat) (w : World) (v : Value) (zs : List Int) : Prop := w.ownsRow B 3 1 v zs.length (zs.map (Value.int .i64))
theorem OwnQ.le {B : Nat} {w : World} {v : Value} {zs : List Int} (h : OwnQ B w v zs) {k : Nat} (hk : v.ownBlock = some k) : B ≤ k := by
  rcases h.2 with ⟨rfl, -⟩ | ⟨g, cap, cur, rfl, hB, -⟩
  · cases hk
  · simp [Value.ownBlock] at hk; omega
theorem OwnQ.move {B : Nat} {w w' : World} {v : Value} {zs : List Int} (h : OwnQ B w v zs) (hb : ∀ k, v.ownBlock = some k → w'.heap[k]? = w.heap[k]?) : OwnQ B w' v zs := by
  obtain ⟨h1, ⟨h2, h3⟩ | ⟨g, cap, cur, rfl, hB, hg, rest⟩⟩ := h
  · exact ⟨h1, .inl ⟨h2, h3⟩⟩
  · exact ⟨h1, .inr ⟨g, cap, cur, rfl, hB, (hb g rfl).trans hg, rest⟩⟩
theorem OwnQ.lt {B : Nat} {w : World} {v : Value} {zs : List Int} (h : OwnQ B w v zs) {k : Nat} (hk : v.ownBlock = some k) : k < w.heap.size := by
  rcases h.2 with ⟨rfl, -⟩ | ⟨g, cap, cur, rfl, hB, hg, -⟩
  · cases hk
  · simp only [Value.ownBlock, Option.some.injEq] at hk
    subst hk
    exact lt_of_block hg
theorem OwnQ.one {B rb : Nat} {w w' : World} {v : Value} {zs : List Int} (h : OwnQ B w v zs) (hg : w.grownBy w' (some rb)) (hr : rb < B) : OwnQ B w' v zs :=
  h.move fun k hk => hg.block k (h.lt hk) (by have := h.le hk; simp; omega)
theorem OwnQ.drewN {B : Nat} {w : World} {v : Value} {zs : List Int} (h : OwnQ B w v zs) (n : Nat) : OwnQ B (w.drewN n) v zs := h
theorem OwnQ.keep {B : Nat} {w w' : World} {v : Value} {zs : List Int} (h : OwnQ B w v zs) (hb : Below w.heap.size w w') : OwnQ B w' v zs := h.move fun k hk => hb.block k (h.lt hk)
theorem OwnQ.lower {B B' : Nat} {w : World} {v : Value} {zs : List Int} (h : OwnQ B w v zs) (hB : B' ≤ B) : OwnQ B' w v zs := by
  obtain ⟨h1, h2 | ⟨g, cap, cur, e, hg, rest⟩⟩ := h
  · exact ⟨h1, .inl h2⟩
  · exact ⟨h1, .inr ⟨g, cap, cur, e, by omega, rest⟩⟩
theorem OwnQ.form {B : Nat} {w : World} {v : Value} {zs : List Int} (h : OwnQ B w v zs) : ∃ a c, v = .slice a zs.length c := by
  obtain ⟨h1, ⟨h2, h3⟩ | ⟨g, cap, cur, e, hB, hg, rest⟩⟩ := h
  · exact ⟨_, _, by rw [h2, h3]⟩
  · exact ⟨_, _, e⟩
theorem OwnQ.own {B : Nat} {w : World} {v : Value} {zs : List Int} (h : OwnQ B w v zs) (hn : zs.length ≤ 16777216) : Own B w v zs := Own.of_row h hn
theorem OwnQ.none_ {B : Nat} {w : World} {g : Nat} (hB : B ≤ g) (h : IntsC w g 0 []) : OwnQ B w (.slice (some ⟨g, 0, none⟩) 0 0) [] := h.row hB
end Go.Proofs.Ytpelnfenfeoeeaa
end

section
/-
  Plain mathematics of chapter 7: the rank of a matrix turned over; products. Nothing of a program is used.
-/
namespace Go.Proofs.Ytpelnfenfeoeeaa
theorem sumN_skip (n a : Nat) (ha : a < n + 1) (f : Nat → Int) : sumN (n + 1) f = f a + sumN n fun i => f (skp a i) := by
  induction n generalizing a with
  | zero =>
    obtain rfl : a = 0 := by omega
    show sumN 0 f + f 0 = _
    simp [sumN]
  | succ n ih =>
    rcases Nat.lt_or_ge a (n + 1) with h | h
    · have e := ih a h
      have e2 : skp a n = n + 1 := by unfold skp; rw [if_neg (by omega)]
      have : sumN (n + 1) (fun i => f (skp a i)) = sumN n (fun i => f (skp a i)) + f (skp a n) := rfl
      rw [this, e2]
      show sumN (n + 1) f + f (n + 1) = _
      rw [e, Int.add_assoc]
    · obtain rfl : a = n + 1 := by omega
      show sumN (n + 1) f + f (n + 1) = _
      rw [Int.add_comm]
      congr 1
      refine sumN_congr fun i hi => ?_
      unfold skp
      rw [if_pos (by omega)]
theorem ker_some : ∀ (t s : Nat) (C : Mx), t < s → ∃ l : Nat → Int, (∃ i, i < s ∧ l i ≠ 0) ∧ ∀ j, j < t → (sumN s fun i => l i * C i j) = 0 := by
  intro t
  induction t with
  | zero => intro s C hs; exact ⟨fun _ => 1, ⟨0, hs, by decide⟩, fun j hj => by omega⟩
  | succ t ih =>
    intro s C hs
    by_cases hz : ∀ i, i < s → C i t = 0
    · obtain ⟨l, hl, h0⟩ := ih s C (by omega)
      refine ⟨l, hl, fun j hj => ?_⟩
      rcases Nat.lt_or_ge j t with h | h
      · exact h0 j h
      · obtain rfl : j = t := by omega
        exact sumN_all_zero fun i hi => by rw [hz i hi, Int.mul_zero]
    · have : ∃ a, a < s ∧ C a t ≠ 0 := Classical.byContradiction fun hn => hz fun i hi => Classical.byContradiction fun h => hn ⟨i, hi, h⟩
      obtain ⟨a, ha, hat⟩ := this
      obtain ⟨s, rfl⟩ : ∃ m, s = m + 1 := ⟨s - 1, by omega⟩
      obtain ⟨l, ⟨b, hb, hlb⟩, h0⟩ := ih s (fun i j => C a t * C (skp a i) j - C (skp a i) t * C a j) (by omega)
      have hself : ∀ i, skp a i ≠ a := fun i => skp_ne a i
      let L : Nat → Int := fun i => if i = a then -(sumN s fun i => l i * C (skp a i) t) else C a t * l (unskp a i)
      have LA : L a = -(sumN s fun i => l i * C (skp a i) t) := if_pos rfl
      have LS : ∀ i, L (skp a i) = C a t * l i := fun i => by
        show (if skp a i = a then _ else _) = _
        rw [if_neg (hself i), unskp_skp]
      refine ⟨L, ⟨skp a b, skp_lt hb, by rw [LS]; exact Int.mul_ne_zero hat hlb⟩, fun j hj => ?_⟩
      rw [sumN_skip s a ha, LA, Int.neg_mul, sumN_mul]
      have e1 : (sumN s fun i => L (skp a i) * C (skp a i) j) = sumN s fun i => C a t * l i * C (skp a i) j := sumN_congr fun i _ => by rw [LS]
      rw [e1]
      rcases Nat.lt_or_ge j t with h | h
      · have := h0 j h
        have e2 : (sumN s fun i => C a t * l i * C (skp a i) j) = sumN s (fun i => l i * (C a t * C (skp a i) j - C (skp a i) t * C a j)) + sumN s (fun i => l i * C (skp a i) t * C a j) := by
          rw [← sumN_add]
          exact sumN_congr fun i _ => by grind
        rw [e2, this]
        omega
      · obtain rfl : j = t := by omega
        have e2 : (sumN s fun i => C a j * l i * C (skp a i) j) = sumN s (fun i => l i * C (skp a i) j * C a j) := sumN_congr fun i _ => by grind
        rw [e2]
        omega
theorem one_den {r c s : Nat} {A B : Mx} (h : SubSp r s c A B) : ∃ (d : Int) (K : Mx), d ≠ 0 ∧ ∀ i j, i < r → j < c → d * A i j = sumN s fun k => K i k * B k j := by
  induction r with
  | zero => exact ⟨1, fun _ _ => 0, by decide, fun i j hi => by omega⟩
  | succ r ih =>
    obtain ⟨d, K, hd, hK⟩ := ih fun i hi => h i (by omega)
    obtain ⟨e, k, he, hk⟩ := h r (by omega)
    refine ⟨d * e, fun i j => if i = r then d * k j else e * K i j, Int.mul_ne_zero hd he, fun i j hi hj => ?_⟩
    by_cases hir : i = r
    · subst hir
      have e1 : (sumN s fun l => (if i = i then d * k l else e * K i l) * B l j) = sumN s fun l => d * (k l * B l j) := sumN_congr fun l _ => by rw [if_pos rfl, Int.mul_assoc]
      show _ = sumN s fun l => (if i = i then d * k l else e * K i l) * B l j
      rw [e1, ← sumN_mul_left, ← hk j hj, Int.mul_assoc]
    · have e1 : (sumN s fun l => (if i = r then d * k l else e * K i l) * B l j) = sumN s fun l => e * (K i l * B l j) := sumN_congr fun l _ => by rw [if_neg hir, Int.mul_assoc]
      show _ = sumN s fun l => (if i = r then d * k l else e * K i l) * B l j
      rw [e1, ← sumN_mul_left, ← hK i j (by omega) hj]
      grind
theorem sub_mul {n c : Nat} (U M : Mx) : SubSp n n c (mulX n U M) M := fun i _ => ⟨1, U i, by decide, fun j _ => by rw [Int.one_mul]; rfl⟩
theorem mul_sub {n c : Nat} {U M V : Mx} {d : Int} (hd : d ≠ 0) (h : ∀ i k, i < n → k < n → mulX n V U i k = if i = k then d else 0) : SubSp n n c M (mulX n U M) := fun i hi => by
  refine ⟨d, V i, hd, fun j hj => ?_⟩
  have e : (sumN n fun k => V i k * mulX n U M k j) = sumN n fun l => mulX n V U i l * M l j := by
    have e1 : (sumN n fun k => V i k * mulX n U M k j) = sumN n fun k => sumN n fun l => V i k * U k l * M l j := sumN_congr fun k _ => by
      show V i k * sumN n _ = _
      rw [sumN_mul_left]
      exact sumN_congr fun l _ => by rw [Int.mul_assoc]
    rw [e1, sumN_swap]
    refine sumN_congr fun l _ => ?_
    show _ = sumN n _ * M l j
    rw [sumN_mul]
  rw [e, sumN_one hi (fun l hl hne => by rw [h i l hi hl, if_neg (fun e => hne e.symm), Int.zero_mul]), h i i hi hi, if_pos rfl]
theorem span_mul {n c : Nat} {U M : Mx} (h : det n U ≠ 0) : SubSp n n c M (mulX n U M) := by
  cases n with
  | zero => intro i hi; omega
  | succ n => exact mul_sub h (fun i k hi hk => adj_mul n U i k hi hk)
end Go.Proofs.Ytpelnfenfeoeeaa
end

section
/-
  Plain mathematics of chapter 7: what the laws ask of echelon forms. Nothing of a program is used.
-/
namespace Go.Proofs.Ytpelnfenfeoeeaa
end Go.Proofs.Ytpelnfenfeoeeaa
end

section
/-
  Chapter 7, in the model: the elimination.
-/
namespace Go.Proofs.Ytpelnfenfeoeeaa
set_option maxRecDepth 100000
open Go.RowKit
def pvI (pv : List Nat) : List Int := pv.map fun (k : Nat) => (k : Int)
def EchP (w : World) (r c : Nat) (o : Option (List Int × List Nat)) (e : Ending) (w' : World) : Prop :=
  (∃ (va vb : Value) (ys : List Int) (pv : List Nat), o = some (ys, pv) ∧ e = .returned (.tuple #[.agg #[.int .i64 r, .int .i64 c, va], vb, .bool true]) ∧ Own w.heap.size w' va ys ∧ Own w.heap.size w' vb (pvI pv) ∧ (∀ k, va.ownBlock = some k → vb.ownBlock ≠ some k) ∧ Below w.heap.size w w')
  ∨ (∃ vb : Value, o = none ∧ e = .returned (.tuple #[.agg #[.int .i64 0, .int .i64 0, .slice none 0 0], vb, .bool false]) ∧ Own w.heap.size w' vb [] ∧ Below w.heap.size w w')
theorem pvI_length (pv : List Nat) : (pvI pv).length = pv.length := List.length_map ..
theorem tdiv_bb {x y b : Int} (h1 : -b ≤ x) (h2 : x ≤ b) : -b ≤ x.tdiv y ∧ x.tdiv y ≤ b := by
  have h := Int.natAbs_tdiv_le_natAbs x y
  omega
end Go.Proofs.Ytpelnfenfeoeeaa
end

section
/-
  Chapter 7, in the model: EchelonOf, RankOf.
-/
namespace Go.Proofs.Ytpelnfenfeoeeaa
set_option maxRecDepth 100000
open Go.RowKit
structure ER where
  r : Int
  c : Int
  zs : List Int
  pv : List Int
  ok : Bool
def ER.no : ER := ⟨0, 0, [], [], false⟩
def ER.of (r c : Int) : Option (List Int × List Nat) → ER
  | some (ys, pv) => ⟨r, c, ys, pvI pv, true⟩
  | none => ER.no
def echR (r c : Int) (xs : List Int) : ER := if isMat r c xs = true then ER.of r c (echM r.toNat c.toNat xs) else ER.no
def EchG (w : World) (R : ER) (e : Ending) (w' : World) : Prop :=
  ∃ (va vb : Value), e = .returned (.tuple #[.agg #[.int .i64 R.r, .int .i64 R.c, va], vb, .bool R.ok]) ∧ Own w.heap.size w' va R.zs ∧ Own w.heap.size w' vb R.pv ∧ (∀ k, va.ownBlock = some k → vb.ownBlock ≠ some k) ∧ Below w.heap.size w w'
theorem EchP.g {w : World} {r c : Nat} {o : Option (List Int × List Nat)} {e : Ending} {w' : World} (h : EchP w r c o e w') : EchG w (ER.of r c o) e w' := by
  rcases h with ⟨va, vb, ys, pv, rfl, rfl, h1, h2, h3, h4⟩ | ⟨vb, rfl, rfl, h2, h4⟩
  · exact ⟨va, vb, rfl, h1, h2, h3, h4⟩
  · exact ⟨_, vb, rfl, .inl ⟨rfl, rfl⟩, h2, fun k hk => by simp [Value.ownBlock] at hk, h4⟩
end Go.Proofs.Ytpelnfenfeoeeaa
end

section
/-
  Chapter 7, in the model: SameSpace.
-/
namespace Go.Proofs.Ytpelnfenfeoeeaa
set_option maxRecDepth 100000
open Go.RowKit
theorem echR_ok {r c : Int} {xs : List Int} (h : (echR r c xs).ok = true) : isMat r c xs = true ∧ ∃ (R C : Nat) (ys : List Int) (pv : List Nat), r = R ∧ c = C ∧ R ≤ 24 ∧ C ≤ 24 ∧ xs.length = R * C ∧ nums xs = true ∧ echM R C xs = some (ys, pv) ∧ echR r c xs = ⟨R, C, ys, pvI pv, true⟩ ∧ ys.length = R * C ∧ pv.length ≤ R := by
  unfold echR at h
  by_cases hm : isMat r c xs = true
  · rw [if_pos hm] at h
    obtain ⟨⟨r0, r1⟩, ⟨c0, c1⟩, hl, nx⟩ := isMat_says hm
    obtain ⟨R, rfl⟩ := Int.eq_ofNat_of_zero_le r0
    obtain ⟨C, rfl⟩ := Int.eq_ofNat_of_zero_le c0
    have hx : xs.length = R * C := by rw [← Int.natCast_mul] at hl; omega
    have e1 : echR R C xs = ER.of R C (echM R C xs) := if_pos hm
    cases he : echM R C xs with
    | none =>
      have h2 : (ER.of R C (echM R C xs)).ok = true := h
      rw [he] at h2; exact absurd h2 (by simp [ER.of, ER.no])
    | some o =>
      obtain ⟨ys, pv⟩ := o
      obtain ⟨h1, -, -, h4, -, -⟩ := echM_says hx nx he
      rw [he] at e1
      exact ⟨hm, R, C, ys, pv, rfl, rfl, by omega, by omega, hx, nx, he, e1, h4, h1.le⟩
  · rw [if_neg hm] at h; exact absurd h (by simp [ER.no])
end Go.Proofs.Ytpelnfenfeoeeaa
end

section
/-
  Plain mathematics of chapter 7: telling an echelon form. Nothing of a program is used.
-/
namespace Go.Proofs.Ytpelnfenfeoeeaa
def leadF (v : Nat → Int) : Nat → Nat → Nat
  | 0, j => j
  | k + 1, j => if v j = 0 then leadF v k (j + 1) else j
def leadC (c : Nat) (v : Nat → Int) : Nat := leadF v c 0
theorem leadF_eq {v : Nat → Int} : ∀ {k j q : Nat}, j ≤ q → q ≤ j + k → (∀ i, j ≤ i → i < q → v i = 0) → (q < j + k → v q ≠ 0) → leadF v k j = q := by
  intro k
  induction k with
  | zero => intro j q h1 h2 _ _; show j = q; omega
  | succ k ih =>
    intro j q h1 h2 hz hn
    show (if v j = 0 then leadF v k (j + 1) else j) = q
    rcases Nat.lt_or_ge j q with h | h
    · rw [if_pos (hz j (Nat.le_refl _) h)]
      exact ih (by omega) (by omega) (fun i h3 h4 => hz i (by omega) h4) (fun h3 => hn (by omega))
    · obtain rfl : j = q := by omega
      rw [if_neg (hn (by omega))]
theorem leadF_says {v : Nat → Int} : ∀ {k j : Nat}, j ≤ leadF v k j ∧ leadF v k j ≤ j + k ∧ (∀ i, j ≤ i → i < leadF v k j → v i = 0) ∧ (leadF v k j < j + k → v (leadF v k j) ≠ 0) := by
  intro k
  induction k with
  | zero => intro j; exact ⟨Nat.le_refl _, Nat.le_refl _, fun i h1 h2 => absurd h2 (by show ¬ i < j; omega), fun h => absurd h (by show ¬ j < j + 0; omega)⟩
  | succ k ih =>
    intro j
    by_cases h : v j = 0
    · have e : leadF v (k + 1) j = leadF v k (j + 1) := if_pos h
      rw [e]
      obtain ⟨h1, h2, h3, h4⟩ := ih (j := j + 1)
      refine ⟨by omega, by omega, fun i h5 h6 => ?_, fun h5 => h4 (by omega)⟩
      rcases Nat.lt_or_ge j i with h7 | h7
      · exact h3 i h7 h6
      · obtain rfl : i = j := by omega
        exact h
    · have e : leadF v (k + 1) j = j := if_neg h
      rw [e]
      exact ⟨Nat.le_refl _, by omega, fun i h1 h2 => by omega, fun _ => h⟩
theorem leadC_says (c : Nat) (v : Nat → Int) : leadC c v ≤ c ∧ (∀ i, i < leadC c v → v i = 0) ∧ (leadC c v < c → v (leadC c v) ≠ 0) := by
  obtain ⟨-, h2, h3, h4⟩ := leadF_says (v := v) (k := c) (j := 0)
  exact ⟨by show leadF v c 0 ≤ c; omega, fun i hi => h3 i (Nat.zero_le _) hi, fun h => h4 (by show leadF v c 0 < 0 + c; have : leadF v c 0 < c := h; omega)⟩
end Go.Proofs.Ytpelnfenfeoeeaa
end

section
/-
  Chapter 7, in the model: IsEchelon.
-/
namespace Go.Proofs.Ytpelnfenfeoeeaa
set_option maxRecDepth 100000
open Go.RowKit
structure IsSt (w : World) (r c : Nat) (a : Option Addr) (N m : Nat) (xs : List Int) (wr : World) : Prop where
  blk : Blk3 wr w.heap.size 26 (.int .i64 r) (.int .i64 c) (.slice a N m)
  rd : Rd wr a xs
  bel : Below w.heap.size w wr
theorem IsSt.step {w : World} {r c : Nat} {a : Option Addr} {N m : Nat} {xs : List Int} {wr w' : World} (h : IsSt w r c a N m xs wr) (hb : Below wr.heap.size wr w') : IsSt w r c a N m xs w' := ⟨h.blk.step hb, h.rd.below hb, h.bel.trans (hb.mono h.bel.size)⟩
end Go.Proofs.Ytpelnfenfeoeeaa
end

section
/-
  Chapter 7, in the model: IsEchelon of what is no matrix, and of all.
-/
namespace Go.Proofs.Ytpelnfenfeoeeaa
set_option maxRecDepth 100000
open Go.RowKit
end Go.Proofs.Ytpelnfenfeoeeaa
end

section
/-
  What a call has built by append, whatever it is of.
-/
namespace Go.Proofs.Ytpelnfenfeoeeaa
open Go.RowKit
end Go.Proofs.Ytpelnfenfeoeeaa
end

section
/-
  Chapter 6, in the model: a matrix without a row and a column.
-/
namespace Go.Proofs.Ytpelnfenfeoeeaa
set_option maxRecDepth 100000
open Go.RowKit
end Go.Proofs.Ytpelnfenfeoeeaa
end

section
/-
  Chapter 6, in the model: l6Det.
-/
namespace Go.Proofs.Ytpelnfenfeoeeaa
set_option maxRecDepth 100000
open Go.RowKit
end Go.Proofs.Ytpelnfenfeoeeaa
end

section
/-
  Chapter 6, in the model: IsSquare.
-/
namespace Go.Proofs.Ytpelnfenfeoeeaa
open Go.RowKit
end Go.Proofs.Ytpelnfenfeoeeaa
end

section
/-
  Chapter 6, in the model: DeterminantOf, IsUnimodular.
-/
namespace Go.Proofs.Ytpelnfenfeoeeaa
open Go.RowKit
end Go.Proofs.Ytpelnfenfeoeeaa
end

section
/-
  Plain mathematics of chapter 6: elimination without fractions over lists of cells ends in the determinant. Nothing of a program is used.
-/
namespace Go.Proofs.Ytpelnfenfeoeeaa
end Go.Proofs.Ytpelnfenfeoeeaa
end

section
/-
  Plain mathematics of chapter 6: what the laws say. Nothing of a program is used.
-/
namespace Go.Proofs.Ytpelnfenfeoeeaa
end Go.Proofs.Ytpelnfenfeoeeaa
end

section
/-
  The laws' unit and mix: some matrix is returned; nothing that was there changes.
-/
namespace Go.Proofs.Ytpelnfenfeoeeaa
set_option maxRecDepth 100000
open Go.RowKit
theorem Own.rd2 {B : Nat} {w : World} {q : Option Addr} {n qc : Nat} {zs : List Int} (h : Own B w (.slice q n qc) zs) : Rd w q zs := by
  obtain ⟨a', c', e, hr, -⟩ := h.form
  injection e with e1 e2 e3
  rw [e1]; exact hr
theorem Own.spot2 {B n c : Nat} {w : World} {a : Option Addr} {zs : List Int} (h : Own B w (.slice a n c) zs) : Spot a := by
  rcases h with ⟨hv, -⟩ | ⟨g, cap, hv, -⟩
  · simp only [Value.slice.injEq] at hv
    exact .inl hv.1
  · simp only [Value.slice.injEq] at hv
    exact .inr ⟨_, _, hv.1⟩
end Go.Proofs.Ytpelnfenfeoeeaa
end

section
/-
  The laws' unit and mix: mix is a matrix whose determinant is 1, or it is empty.
-/
namespace Go.Proofs.Ytpelnfenfeoeeaa
open Go.RowKit
end Go.Proofs.Ytpelnfenfeoeeaa
end

section
/-
  Plain mathematics of chapter 7: what FnEchelon asks. Nothing of a program is used.
-/
namespace Go.Proofs.Ytpelnfenfeoeeaa
open Go.RowKit
theorem isMat_mk {r c : Nat} {zs : List Int} (hr : r ≤ 24) (hc : c ≤ 24) (hl : zs.length = r * c) (hn : nums zs = true) : isMat r c zs = true := by
  have h1 : (zs.length : Int) = (r : Int) * (c : Int) := by rw [← Int.natCast_mul]; omega
  unfold isMat
  simp only [Bool.and_eq_true, decide_eq_true_eq]
  exact ⟨⟨⟨⟨by omega, by omega⟩, ⟨by omega, by omega⟩⟩, h1⟩, hn⟩
end Go.Proofs.Ytpelnfenfeoeeaa
end

section
/-
  Chapter 12, in the program: a matrix on its way and its account, each behind a pointer: what lies in memory.
-/
namespace Go.Proofs.Ytpelnfenfeoeeaa
open Go.RowKit
theorem Own.moveA {B : Nat} {w w' : World} {v : Value} {zs : List Int} (h : Own B w v zs) (e : ∀ k, v.ownBlock = some k → w'.heap[k]? = w.heap[k]?) : Own B w' v zs := by
  rcases h with h | ⟨g, cap, hv, hB, hi, hl, hc⟩
  · exact .inl h
  · exact .inr ⟨g, cap, hv, hB, hi.move (e g (by rw [hv]; rfl)), hl, hc⟩
theorem Own.ne_box {B b : Nat} {w : World} {v : Value} {zs : List Int} {x y z : Value} (h : Own B w v zs) (k : Blk3 w b 26 x y z) : v.ownBlock ≠ some b := fun e => by
  rcases h with ⟨h2, -⟩ | ⟨g, cap, rfl, hB, ⟨rest, hg⟩, -⟩
  · rw [h2] at e; cases e
  · simp only [Value.ownBlock, Option.some.injEq] at e
    subst e
    unfold Blk3 at k
    rw [hg] at k
    injection k with k
    injection k with _ k2 _
    exact absurd k2 (by decide)
theorem Own.lt_of {B k : Nat} {w : World} {v : Value} {zs : List Int} (h : Own B w v zs) (e : v.ownBlock = some k) : B ≤ k ∧ k < w.heap.size := by
  rcases h with ⟨h2, -⟩ | ⟨g, cap, rfl, hB, hi, -⟩
  · rw [h2] at e; cases e
  · simp only [Value.ownBlock, Option.some.injEq] at e
    subst e
    exact ⟨hB, hi.lt⟩
theorem Own.setA {B b : Nat} {w : World} {v : Value} {zs : List Int} (h : Own B w v zs) (hb : v.ownBlock ≠ some b) (x y z : Value) : Own B (((w.setCell ⟨b, 0, none⟩ x).setCell ⟨b, 1, none⟩ y).setCell ⟨b, 2, none⟩ z) v zs :=
  h.moveA fun k hk => by
    have hne : k ≠ b := fun e => hb (by rw [hk, e])
    exact ((Below.heap_setCell _ _ z k hne).trans (Below.heap_setCell _ _ y k hne)).trans (Below.heap_setCell _ _ x k hne)
structure AcV (R C na nu bf ba B : Nat) (s : HSt) (qa qu : Option Addr) (ma mu : Nat) (w : World) : Prop where
  kf : Blk3 w bf 26 (.int .i64 R) (.int .i64 C) (.slice qa na ma)
  ka : Blk3 w ba 26 (.int .i64 R) (.int .i64 R) (.slice qu nu mu)
  fA : Own B w (.slice qa na ma) s.1
  fU : Own B w (.slice qu nu mu) s.2
  df : ∀ k, (Value.slice qa na ma).ownBlock = some k → (Value.slice qu nu mu).ownBlock ≠ some k
  lf : s.1.length = na
  lu : s.2.length = nu
  bb : bf ≠ ba
def AcW (R C na nu bf ba B : Nat) (s : HSt) (w : World) : Prop := ∃ qa qu ma mu, AcV R C na nu bf ba B s qa qu ma mu w
theorem AcV.step {R C na nu bf ba B : Nat} {s : HSt} {qa qu : Option Addr} {ma mu : Nat} {w w' : World} (h : AcV R C na nu bf ba B s qa qu ma mu w) (hb : Below w.heap.size w w') : AcV R C na nu bf ba B s qa qu ma mu w' :=
  ⟨h.kf.keep hb h.kf.lt, h.ka.keep hb h.ka.lt, h.fA.keep hb, h.fU.keep hb, h.df, h.lf, h.lu, h.bb⟩
theorem AcW.step {R C na nu bf ba B : Nat} {s : HSt} {w w' : World} (h : AcW R C na nu bf ba B s w) (hb : Below w.heap.size w w') : AcW R C na nu bf ba B s w' := by
  obtain ⟨qa, qu, ma, mu, h⟩ := h
  exact ⟨qa, qu, ma, mu, h.step hb⟩
theorem AcW.lt {R C na nu bf ba B : Nat} {s : HSt} {w : World} (h : AcW R C na nu bf ba B s w) : bf < w.heap.size ∧ ba < w.heap.size := by
  obtain ⟨qa, qu, ma, mu, h⟩ := h
  exact ⟨h.kf.lt, h.ka.lt⟩
theorem AcV.rd {R C na nu bf ba B : Nat} {s : HSt} {qa qu : Option Addr} {ma mu : Nat} {w : World} (h : AcV R C na nu bf ba B s qa qu ma mu w) : Rd w qa s.1 := by
  rcases h.fA with ⟨e, h0⟩ | ⟨g, c, e, -, hi, -⟩
  · rw [h0]; exact Rd.nil _ _
  · injection e with e1 _ _
    rw [e1]; exact hi.rd
theorem AcV.rdu {R C na nu bf ba B : Nat} {s : HSt} {qa qu : Option Addr} {ma mu : Nat} {w : World} (h : AcV R C na nu bf ba B s qa qu ma mu w) : Rd w qu s.2 := by
  rcases h.fU with ⟨e, h0⟩ | ⟨g, c, e, -, hi, -⟩
  · rw [h0]; exact Rd.nil _ _
  · injection e with e1 _ _
    rw [e1]; exact hi.rd
theorem AcV.putF {R C na nu bf ba B : Nat} {s : HSt} {qa qu : Option Addr} {ma mu : Nat} {w w1 : World} (h : AcV R C na nu bf ba B s qa qu ma mu w) (hb : Below w.heap.size w w1) (hB : B ≤ w.heap.size) {q : Option Addr} {m : Nat} {zs : List Int} (ho : Own w.heap.size w1 (.slice q na m) zs) (hz : zs.length = na) :
    AcW R C na nu bf ba B (zs, s.2) (((w1.setCell ⟨bf, 0, none⟩ (.int .i64 R)).setCell ⟨bf, 1, none⟩ (.int .i64 C)).setCell ⟨bf, 2, none⟩ (.slice q na m)) := by
  have h1 := h.step hb
  have l1 := h.kf.lt
  have ob : (Value.slice q na m).ownBlock ≠ some bf := fun e => by have := ho.lt_of e; omega
  refine ⟨q, qu, m, mu, ((h1.kf.set0 _).set1 _).set2 _, ((h1.ka.far (a := ⟨bf, 0, none⟩) (by show ba ≠ bf; exact h.bb.symm) _).far (a := ⟨bf, 1, none⟩) (by show ba ≠ bf; exact h.bb.symm) _).far (a := ⟨bf, 2, none⟩) (by show ba ≠ bf; exact h.bb.symm) _, (ho.setA ob _ _ _).le hB, h1.fU.setA (h1.fU.ne_box h1.kf) _ _ _, fun k hk e => ?_, hz, h.lu, h.bb⟩
  have a1 := ho.lt_of hk
  have a2 := h.fU.lt_of e
  omega
theorem AcV.putU {R C na nu bf ba B : Nat} {s : HSt} {qa qu : Option Addr} {ma mu : Nat} {w w1 : World} (h : AcV R C na nu bf ba B s qa qu ma mu w) (hb : Below w.heap.size w w1) (hB : B ≤ w.heap.size) {q : Option Addr} {m : Nat} {zs : List Int} (ho : Own w.heap.size w1 (.slice q nu m) zs) (hz : zs.length = nu) :
    AcW R C na nu bf ba B (s.1, zs) (((w1.setCell ⟨ba, 0, none⟩ (.int .i64 R)).setCell ⟨ba, 1, none⟩ (.int .i64 R)).setCell ⟨ba, 2, none⟩ (.slice q nu m)) := by
  have h1 := h.step hb
  have l1 := h.ka.lt
  have ob : (Value.slice q nu m).ownBlock ≠ some ba := fun e => by have := ho.lt_of e; omega
  refine ⟨qa, q, ma, m, ((h1.kf.far (a := ⟨ba, 0, none⟩) (by show bf ≠ ba; exact h.bb) _).far (a := ⟨ba, 1, none⟩) (by show bf ≠ ba; exact h.bb) _).far (a := ⟨ba, 2, none⟩) (by show bf ≠ ba; exact h.bb) _, ((h1.ka.set0 _).set1 _).set2 _, h1.fA.setA (h1.fA.ne_box h1.ka) _ _ _, (ho.setA ob _ _ _).le hB, fun k hk e => ?_, h.lf, hz, h.bb⟩
  have a1 := ho.lt_of e
  have a2 := h.fA.lt_of hk
  omega
def acS (R C : Nat) (k : Int) (I J : Nat) (z : Int) (s : HSt) : Nat → HSt
  | 0 => s
  | 1 => (opL k I J z C s.1, s.2)
  | _ => op2 R C k I J z s
def acB (R C : Nat) (k : Int) (I J : Nat) (z : Int) (s : HSt) : Nat → Bool
  | 0 => true
  | 1 => nums (opL k I J z C s.1)
  | _ => okS (op2 R C k I J z s)
theorem opM_case {k : Int} {I J : Nat} {z : Int} {R C : Nat} {xs : List Int} (hm : isMat R C xs = true) (ho : isOp k I J z R = true) (hl : (opL k I J z C xs).length = R * C) :
    opM k I J z R C xs = if nums (opL k I J z C xs) = true then ⟨true, R, C, opL k I J z C xs⟩ else MR.no := by
  have E : opM k I J z R C xs = MR.done R C (opL k I J z C xs) := by unfold opM; rw [hm, ho]; rfl
  obtain ⟨⟨-, r2⟩, ⟨-, c2⟩, -, -⟩ := isMat_says hm
  rw [E]
  unfold MR.done
  cases hn : nums (opL k I J z C xs) with
  | true => rw [if_pos rfl, if_pos (isMat_mk (by omega) (by omega) hl hn)]
  | false =>
    have h0 : ¬ isMat R C (opL k I J z C xs) = true := fun h => by
      have := (isMat_says h).2.2.2
      rw [hn] at this
      cases this
    rw [if_neg h0]
    rfl
structure DoAt (R C na nu bf ba B : Nat) (k : Int) (I J : Nat) (z : Int) (s : HSt) (i : Nat) (w : World) (bx cx nx : Nat) (qx : Option Addr) (mx : Nat) (xs zs : List Int) (fx : Bool) : Prop where
  blk : Blk3 w bx 26 (.int .i64 R) (.int .i64 cx) (.slice qx nx mx)
  rd : Rd w qx xs
  lx : xs.length = nx
  lz : zs.length = nx
  spot : Spot qx
  op : opM k I J z R cx xs = if fx = true then ⟨true, R, cx, zs⟩ else MR.no
  eb : bx = if i = 0 then bf else ba
  nn : nx = na ∨ nx = nu
  ef : fx = acB R C k I J z s (i + 1)
  bad : fx = false → okS (op2 R C k I J z s) = false
  next : ∀ w1 q m, Below w.heap.size w w1 → Own w.heap.size w1 (.slice q nx m) zs → AcW R C na nu bf ba B (acS R C k I J z s (i + 1)) (((w1.setCell ⟨bx, 0, none⟩ (.int .i64 R)).setCell ⟨bx, 1, none⟩ (.int .i64 cx)).setCell ⟨bx, 2, none⟩ (.slice q nx m))
theorem do_at {R C na nu bf ba B : Nat} {k : Int} {I J : Nat} {z : Int} {s : HSt} {i : Nat} {w : World} (hi : i < 2) (hR : R ≤ 24) (hC : C ≤ 24) (hna : na = R * C) (hnu : nu = R * R) (h : AcW R C na nu bf ba B (acS R C k I J z s i) w) (hB : B ≤ w.heap.size) (hS : Siz R C s) (ho : okS s = true) (hop : isOp k I J z R = true) (hf : acB R C k I J z s i = true) :
    ∃ bx cx nx qx mx xs zs fx, DoAt R C na nu bf ba B k I J z s i w bx cx nx qx mx xs zs fx := by
  obtain ⟨qa, qu, ma, mu, h⟩ := h
  have n2 := okS_and ho
  have S2 := hS.op k I J z
  have l1 : (opL k I J z C s.1).length = R * C := S2.l1
  have l2 : (opL k I J z R s.2).length = R * R := S2.l2
  rcases i with _ | _ | i
  · refine ⟨bf, C, na, qa, ma, s.1, opL k I J z C s.1, nums (opL k I J z C s.1), h.kf, h.rd, h.lf, by rw [l1, hna], h.fA.celA.spot, opM_case (isMat_mk hR hC hS.l1 n2.1) hop l1, rfl, .inl rfl, rfl, fun h0 => ?_, fun w1 q m hb hw => ?_⟩
    · show (nums _ && nums _) = false
      show (nums (opL k I J z C s.1) && nums (opL k I J z R s.2)) = false
      rw [h0]; rfl
    · exact h.putF hb hB hw (by rw [l1, hna])
  · have hf1 : nums (opL k I J z C s.1) = true := hf
    refine ⟨ba, R, nu, qu, mu, s.2, opL k I J z R s.2, nums (opL k I J z R s.2), h.ka, h.rdu, h.lu, by rw [l2, hnu], h.fU.celA.spot, opM_case (isMat_mk hR hR hS.l2 n2.2) hop l2, rfl, .inr rfl, ?_, fun h0 => ?_, fun w1 q m hb hw => ?_⟩
    · show _ = (nums (opL k I J z C s.1) && nums (opL k I J z R s.2))
      rw [hf1]; rfl
    · show (nums (opL k I J z C s.1) && nums (opL k I J z R s.2)) = false
      rw [h0, hf1]; rfl
    · exact h.putU hb hB hw (by rw [l2, hnu])
  · omega
theorem do_at_le {R C na nu bf ba B : Nat} {k : Int} {I J : Nat} {z : Int} {s : HSt} {i : Nat} {w : World} (hi : i < 2) (hR : R ≤ 24) (hC : C ≤ 24) (hna : na = R * C) (hnu : nu = R * R) (h : AcW R C na nu bf ba B (acS R C k I J z s i) w) (hB : B ≤ w.heap.size) (hS : Siz R C s) (ho : okS s = true) (hop : isOp k I J z R = true) (hf : acB R C k I J z s i = true) :
    ∃ bx cx nx qx mx xs zs fx, DoAt R C na nu bf ba B k I J z s i w bx cx nx qx mx xs zs fx ∧ nx ≤ 600 := by
  have hle : R * C ≤ 24 * 24 := Nat.mul_le_mul hR hC
  have hlu : R * R ≤ 24 * 24 := Nat.mul_le_mul hR hR
  obtain ⟨bx, cx, nx, qx, mx, xs, zs, fx, D⟩ := do_at hi hR hC hna hnu h hB hS ho hop hf
  refine ⟨bx, cx, nx, qx, mx, xs, zs, fx, D, ?_⟩
  rcases D.nn with e | e <;> omega
end Go.Proofs.Ytpelnfenfeoeeaa
end
