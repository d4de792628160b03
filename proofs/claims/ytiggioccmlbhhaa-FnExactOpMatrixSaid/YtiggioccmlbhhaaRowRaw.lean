/-
  Plain mathematics of chapter 5: an operation on rows without marks. Nothing of a program is used.
-/
import Derived.Test.YtiggioccmlbhhaaRowMath
import Derived.Test.YtiggioccmlbhhaaRow4
namespace Go.Proofs.Ytiggioccmlbhhaa
open Go.RowKit

theorem isOp_rows0 {i j t r : Int} (h : isOp 0 i j t r = true) : i ≠ j := by
  unfold isOp at h; simp at h; exact fun e => h.2.1 e.symm
theorem isOp_rows1 {i j t r : Int} (h : isOp 1 i j t r = true) : i = j := by
  unfold isOp at h; simp at h; exact h.2.1.symm
theorem isOp_rows2 {i j t r : Int} (h : isOp 2 i j t r = true) : i ≠ j := by
  unfold isOp at h; simp at h; exact fun e => h.2 e.symm
/-- The columns before q are done. -/
def colTo (f : Nat → Int) (C : Nat) (xs : List Int) (q : Nat) : List Int := (List.range xs.length).map fun p => if p % C < q then f p else xs.getD p 0
theorem colTo_length (f : Nat → Int) (C : Nat) (xs : List Int) (q : Nat) : (colTo f C xs q).length = xs.length := by simp [colTo]
theorem colTo_getD (f : Nat → Int) (C : Nat) (xs : List Int) (q p : Nat) (hp : p < xs.length) : (colTo f C xs q).getD p 0 = if p % C < q then f p else xs.getD p 0 := by
  simp [colTo, List.getD, hp]
theorem colTo_zero (f : Nat → Int) (C : Nat) (xs : List Int) : colTo f C xs 0 = xs := by
  refine list_getD (colTo_length _ _ _ _) fun p hp => ?_
  rw [colTo_length] at hp
  rw [colTo_getD _ _ _ _ _ hp, if_neg (by omega)]
theorem colTo_all (f : Nat → Int) (C : Nat) (xs : List Int) (h : xs.length = 0 ∨ 0 < C) : colTo f C xs C = (List.range xs.length).map f := by
  unfold colTo
  refine List.map_congr_left fun p hp => ?_
  have hp := List.mem_range.mp hp
  rw [if_pos (Nat.mod_lt p (by omega))]
/-- A column is done by two stores. -/
theorem colTo_two (f : Nat → Int) (I J C R : Nat) (xs : List Int) (q : Nat) (a b : Int) (hl : xs.length = R * C) (hI : I < R) (hJ : J < R) (hq : q < C)
    (hb : f (J * C + q) = b) (ha : I ≠ J → f (I * C + q) = a) (hr : ∀ p, p / C ≠ I → p / C ≠ J → f p = xs.getD p 0) :
    ((colTo f C xs q).set (I * C + q) a).set (J * C + q) b = colTo f C xs (q + 1) := by
  have a1 : I * C + q < xs.length := by rw [hl]; exact idx_lt hI hq
  have a2 : J * C + q < xs.length := by rw [hl]; exact idx_lt hJ hq
  refine list_getD (by rw [List.length_set, List.length_set, colTo_length, colTo_length]) fun p hp => ?_
  rw [List.length_set, List.length_set, colTo_length] at hp
  rw [getD_set _ _ _ _ (by rw [List.length_set, colTo_length]; exact a2), getD_set _ _ _ _ (by rw [colTo_length]; exact a1), colTo_getD _ _ _ _ _ hp, colTo_getD _ _ _ _ _ hp]
  by_cases e : p % C = q
  · have sp := split_idx e
    rw [if_pos (show p % C < q + 1 by omega), if_neg (show ¬ p % C < q by omega)]
    by_cases e2 : p / C = J
    · have : p = J * C + q := by rw [← e2]; exact sp
      rw [if_pos this, this, hb]
    · rw [if_neg (fun h => e2 (by rw [h, idx_div hq]))]
      by_cases e1 : p / C = I
      · have : p = I * C + q := by rw [← e1]; exact sp
        rw [if_pos this, this, ha (fun h => e2 (by rw [e1, h]))]
      · rw [if_neg (fun h => e1 (by rw [h, idx_div hq])), hr p e1 e2]
  · rw [if_neg (fun h => e (by rw [h, idx_mod hq])), if_neg (fun h => e (by rw [h, idx_mod hq]))]
    by_cases e2 : p % C < q
    · rw [if_pos e2, if_pos (by omega)]
    · rw [if_neg e2, if_neg (by omega)]
/-- What the cell p becomes, without marks. -/
def rwAt (k : Int) (I J : Nat) (t : Int) (C : Nat) (xs : List Int) (p : Nat) : Int :=
  if k = 0 then (if p / C = I then xs.getD (J * C + p % C) 0 else if p / C = J then xs.getD (I * C + p % C) 0 else xs.getD p 0)
  else if k = 1 then (if p / C = I then - xs.getD p 0 else xs.getD p 0)
  else (if p / C = I then xs.getD p 0 + xs.getD (J * C + p % C) 0 * t else xs.getD p 0)
/-- What is added is a number, in the columns before q. -/
def prodTo (k : Int) (J : Nat) (t : Int) (C : Nat) (xs : List Int) (q : Nat) : Prop := k = 2 → ∀ s, s < q → NumP (xs.getD (J * C + s) 0 * t)
theorem prodTo_zero (k : Int) (J : Nat) (t : Int) (C : Nat) (xs : List Int) : prodTo k J t C xs 0 := fun _ s hs => absurd hs (by omega)
theorem prodTo_succ {k : Int} {J : Nat} {t : Int} {C : Nat} {xs : List Int} {q : Nat} (h : prodTo k J t C xs q) (h2 : k = 2 → NumP (xs.getD (J * C + q) 0 * t)) : prodTo k J t C xs (q + 1) := fun hk s hs => by
  rcases Nat.lt_or_ge s q with h3 | h3
  · exact h hk s h3
  · obtain rfl : s = q := by omega
    exact h2 hk
theorem rw_swap (I J : Nat) (t : Int) (C R : Nat) (xs : List Int) (q : Nat) (hl : xs.length = R * C) (hI : I < R) (hJ : J < R) (hq : q < C) (hIJ : I ≠ J) :
    ((colTo (rwAt 0 I J t C xs) C xs q).set (I * C + q) (xs.getD (J * C + q) 0)).set (J * C + q) (xs.getD (I * C + q) 0) = colTo (rwAt 0 I J t C xs) C xs (q + 1) := by
  refine colTo_two _ I J C R xs q _ _ hl hI hJ hq ?_ (fun _ => ?_) fun p h1 h2 => ?_
  · unfold rwAt; rw [if_pos rfl, idx_div hq, idx_mod hq, if_neg (fun h => hIJ h.symm), if_pos rfl]
  · unfold rwAt; rw [if_pos rfl, idx_div hq, idx_mod hq, if_pos rfl]
  · unfold rwAt; rw [if_pos rfl, if_neg h1, if_neg h2]
theorem rw_neg (I : Nat) (t : Int) (C R : Nat) (xs : List Int) (q : Nat) (hl : xs.length = R * C) (hI : I < R) (hq : q < C) :
    ((colTo (rwAt 1 I I t C xs) C xs q).set (I * C + q) (- xs.getD (I * C + q) 0)).set (I * C + q) (- xs.getD (I * C + q) 0) = colTo (rwAt 1 I I t C xs) C xs (q + 1) := by
  refine colTo_two _ I I C R xs q _ _ hl hI hI hq ?_ (fun h => absurd rfl h) fun p h1 h2 => ?_
  · unfold rwAt; rw [if_neg (by decide), if_pos rfl, idx_div hq, if_pos rfl]
  · unfold rwAt; rw [if_neg (by decide), if_pos rfl, if_neg h1]
theorem rw_add (I J : Nat) (t : Int) (C R : Nat) (xs : List Int) (q : Nat) (hl : xs.length = R * C) (hI : I < R) (hJ : J < R) (hq : q < C) (hIJ : I ≠ J) :
    ((colTo (rwAt 2 I J t C xs) C xs q).set (I * C + q) (xs.getD (I * C + q) 0 + xs.getD (J * C + q) 0 * t)).set (J * C + q) (xs.getD (J * C + q) 0) = colTo (rwAt 2 I J t C xs) C xs (q + 1) := by
  refine colTo_two _ I J C R xs q _ _ hl hI hJ hq ?_ (fun _ => ?_) fun p h1 h2 => ?_
  · unfold rwAt; rw [if_neg (by decide), if_neg (by decide), idx_div hq, if_neg (fun h => hIJ h.symm)]
  · unfold rwAt; rw [if_neg (by decide), if_neg (by decide), idx_div hq, idx_mod hq, if_pos rfl]
  · unfold rwAt; rw [if_neg (by decide), if_neg (by decide), if_neg h1]
theorem fitB_num {z : Int} (h : NumP z) : fitB z = z := by unfold fitB; rw [if_pos h]
theorem bad_ne {z : Int} (h : NumP z) : z ≠ badN := by unfold NumP at h; unfold badN; omega
theorem wrap_small {z : Int} (h : -1000000000000000000 ≤ z ∧ z ≤ 1000000000000000000) : wrap64 z = z := IntWalk.wrap64_in _ (by omega)
theorem mulB_num {a b : Int} (ha : NumP a) (hb : NumP b) : mulB a b = fitB (a * b) := by
  unfold mulB
  have := mul_num a b ha hb
  rw [if_neg (fun h => h.elim (bad_ne ha) (bad_ne hb)), wrap_small (by omega)]
theorem addB_num {a b : Int} (ha : NumP a) (hb : NumP b) : addB a b = fitB (a + b) := by
  unfold addB
  obtain ⟨a1, a2⟩ := ha
  obtain ⟨b1, b2⟩ := hb
  rw [if_neg (fun h => h.elim (bad_ne ⟨a1, a2⟩) (bad_ne ⟨b1, b2⟩)), wrap_small (by omega)]
theorem addB_bad (a : Int) : addB a badN = badN := by unfold addB; rw [if_pos (.inr rfl)]
theorem NumP_neg {a : Int} (h : NumP a) : NumP (-a) := by unfold NumP at *; omega
theorem nums_def {xs : List Int} (h : nums xs = true) (p : Nat) : NumP (xs.getD p 0) := by
  rcases Nat.lt_or_ge p xs.length with h1 | h1
  · exact nums_at h h1
  · simp [List.getD, h1, NumP]
theorem opAt_raw (k : Int) (I J : Nat) (t : Int) (C : Nat) (xs : List Int) (p : Nat) (hk : k = 0 ∨ k = 1 ∨ k = 2) (hx : nums xs = true) (ht : NumP t) (hp : k = 2 → p / C = I → NumP (xs.getD (J * C + p % C) 0 * t)) :
    opAt k I J t C xs p = fitB (rwAt k I J t C xs p) := by
  unfold opAt rwAt
  rcases hk with rfl | rfl | rfl
  · rw [if_pos rfl, if_pos rfl, fitB_num]
    by_cases e1 : p / C = I
    · rw [if_pos e1]; exact nums_def hx _
    · rw [if_neg e1]
      by_cases e2 : p / C = J
      · rw [if_pos e2]; exact nums_def hx _
      · rw [if_neg e2]; exact nums_def hx _
  · simp only [show (1 : Int) ≠ 0 by decide, if_false, if_true]
    by_cases e1 : p / C = I
    · rw [if_pos e1, if_pos e1, mulB_num (nums_def hx _) (by decide), Int.mul_neg, Int.mul_one]
    · rw [if_neg e1, if_neg e1, fitB_num (nums_def hx _)]
  · simp only [show (2 : Int) ≠ 0 by decide, show (2 : Int) ≠ 1 by decide, if_false]
    by_cases e1 : p / C = I
    · rw [if_pos e1, if_pos e1, mulB_num (nums_def hx _) ht, fitB_num (hp rfl e1), addB_num (nums_def hx _) (hp rfl e1)]
    · rw [if_neg e1, if_neg e1, fitB_num (nums_def hx _)]
theorem fitB_bad {z : Int} (h : ¬ NumP z) : fitB z = badN := by unfold fitB; rw [if_neg h]
theorem bad_not : ¬ NumP badN := by decide
/-- Marks or none: the result is the same. -/
theorem done_fit (r c : Int) (f g : Nat → Int) (n : Nat) (h : ∀ p, p < n → f p = fitB (g p)) : MR.done r c ((List.range n).map f) = MR.done r c ((List.range n).map g) := by
  by_cases hn : nums ((List.range n).map g) = true
  · have : (List.range n).map f = (List.range n).map g := by
      refine List.map_congr_left fun p hp => ?_
      have hp := List.mem_range.mp hp
      have := nums_at hn (j := p) (by simpa using hp)
      rw [h p hp, fitB_num]
      simpa [List.getD, hp] using this
    rw [this]
  · have hf : nums ((List.range n).map f) = false := by
      rcases Bool.eq_false_or_eq_true (nums ((List.range n).map f)) with hf | hf
      · refine absurd (nums_true fun p hp => ?_) hn
        have hp' : p < n := by simpa using hp
        have := nums_at hf (j := p) (by simpa using hp')
        simp only [List.getD, List.getElem?_map, List.getElem?_range hp', Option.map_some, Option.getD_some] at this ⊢
        by_cases hg : NumP (g p)
        · exact hg
        · rw [h p hp', fitB_bad hg] at this
          exact absurd this bad_not
      · exact hf
    have hg : nums ((List.range n).map g) = false := by simpa using hn
    have e1 : isMat r c ((List.range n).map f) = false := by unfold isMat; rw [hf]; simp
    have e2 : isMat r c ((List.range n).map g) = false := by unfold isMat; rw [hg]; simp
    unfold MR.done
    rw [e1, e2]; rfl
theorem rw_done (k : Int) (I J : Nat) (t : Int) (R C : Nat) (xs : List Int) (hk : k = 0 ∨ k = 1 ∨ k = 2) (hl : xs.length = R * C) (hx : nums xs = true) (ht : NumP t) (hp : prodTo k J t C xs C) :
    MR.done R C (opL k I J t C xs) = MR.done R C (colTo (rwAt k I J t C xs) C xs C) := by
  have hC : xs.length = 0 ∨ 0 < C := by
    rcases Nat.eq_zero_or_pos C with h | h
    · left; rw [hl, h, Nat.mul_zero]
    · exact .inr h
  rw [colTo_all _ _ _ hC]
  unfold opL
  refine done_fit _ _ _ _ _ fun p hp' => opAt_raw k I J t C xs p hk hx ht fun h2 _ => hp h2 _ (Nat.mod_lt p ?_)
  omega
/-- What is added is beyond the limit in one column: nothing is done. -/
theorem rw_over (I J : Nat) (t : Int) (R C : Nat) (xs : List Int) (q : Nat) (hl : xs.length = R * C) (hI : I < R) (hq : q < C) (hx : nums xs = true) (ht : NumP t) (hb : ¬ NumP (xs.getD (J * C + q) 0 * t)) :
    MR.done R C (opL 2 I J t C xs) = MR.no := by
  have hi : I * C + q < xs.length := by rw [hl]; exact idx_lt hI hq
  have e : (opL 2 I J t C xs).getD (I * C + q) 0 = badN := by
    unfold opL
    simp only [List.getD, List.getElem?_map, List.getElem?_range hi, Option.map_some, Option.getD_some]
    rw [opAt_two _ _ _ _ _ hq, mulB_num (nums_def hx _) ht, fitB_bad hb, addB_bad]
  have e2 : nums (opL 2 I J t C xs) = false := nums_false (j := I * C + q) (by rw [opL_length]; exact hi) (by rw [e]; exact bad_not)
  unfold MR.done isMat
  rw [e2]; simp
end Go.Proofs.Ytiggioccmlbhhaa
