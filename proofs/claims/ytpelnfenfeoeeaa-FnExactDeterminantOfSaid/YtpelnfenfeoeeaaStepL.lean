/-
  Plain mathematics of chapter 6: elimination without fractions over lists of cells ends in the determinant. Nothing of a program is used.
-/
import Derived.Test.YtpelnfenfeoeeaaDetL
namespace Go.Proofs.Ytpelnfenfeoeeaa

/-- The first row from p on (k rows are left) whose cell in column t is not 0; n if there is none. -/
def findP (n t : Nat) (xs : List Int) : Nat → Nat → Nat
  | 0, p => p
  | k + 1, p => if xs.getD (p * n + t) 0 = 0 then findP n t xs k (p + 1) else p
theorem findP_eq {n t : Nat} {xs : List Int} {q : Nat} (h2 : q ≤ n) (hn : q < n → xs.getD (q * n + t) 0 ≠ 0) : ∀ {k p : Nat}, p + k = n → p ≤ q → (∀ r, p ≤ r → r < q → xs.getD (r * n + t) 0 = 0) → findP n t xs k p = q := by
  intro k
  induction k with
  | zero => intro p hk h1 _; show p = q; omega
  | succ k ih =>
    intro p hk h1 hz
    show (if xs.getD (p * n + t) 0 = 0 then _ else p) = q
    rcases Nat.lt_or_ge p q with h | h
    · rw [if_pos (hz p (Nat.le_refl _) h)]
      exact ih (by omega) (by omega) fun r h3 h4 => hz r (by omega) h4
    · obtain rfl : p = q := by omega
      rw [if_neg (hn (by omega))]
def pivP (n t : Nat) (xs : List Int) : Nat := findP n t xs (n - t) t
theorem pivP_eq {n t q : Nat} {xs : List Int} (ht : t ≤ q) (h2 : q ≤ n) (hz : ∀ r, t ≤ r → r < q → xs.getD (r * n + t) 0 = 0) (hn : q < n → xs.getD (q * n + t) 0 ≠ 0) : pivP n t xs = q := findP_eq h2 hn (by omega) ht hz
theorem findP_says {n t : Nat} {xs : List Int} : ∀ {k p : Nat}, p + k = n → p ≤ findP n t xs k p ∧ findP n t xs k p ≤ n ∧ (∀ r, p ≤ r → r < findP n t xs k p → xs.getD (r * n + t) 0 = 0) ∧ (findP n t xs k p < n → xs.getD (findP n t xs k p * n + t) 0 ≠ 0) := by
  intro k
  induction k with
  | zero => intro p hk; exact ⟨Nat.le_refl _, by show p ≤ n; omega, fun r h1 h2 => absurd h2 (by show ¬ r < p; omega), fun h => absurd h (by show ¬ p < n; omega)⟩
  | succ k ih =>
    intro p hk
    by_cases h : xs.getD (p * n + t) 0 = 0
    · have e : findP n t xs (k + 1) p = findP n t xs k (p + 1) := if_pos h
      rw [e]
      obtain ⟨h1, h2, h3, h4⟩ := ih (p := p + 1) (by omega)
      refine ⟨by omega, h2, fun r h5 h6 => ?_, h4⟩
      rcases Nat.lt_or_ge p r with h7 | h7
      · exact h3 r h7 h6
      · obtain rfl : r = p := by omega
        exact h
    · have e : findP n t xs (k + 1) p = p := if_neg h
      rw [e]
      exact ⟨Nat.le_refl _, by omega, fun r h1 h2 => by omega, fun _ => h⟩
theorem pivP_says {n t : Nat} {xs : List Int} (ht : t ≤ n) : t ≤ pivP n t xs ∧ pivP n t xs ≤ n ∧ (∀ r, t ≤ r → r < pivP n t xs → xs.getD (r * n + t) 0 = 0) ∧ (pivP n t xs < n → xs.getD (pivP n t xs * n + t) 0 ≠ 0) := findP_says (by omega)
/-- The pivot's row is swapped with row t. -/
def pvL (n t : Nat) (xs : List Int) : List Int := if pivP n t xs = t then xs else opL 0 (pivP n t xs) t 0 n xs
/-- What a cell becomes in the step of row t. -/
def elAt (n t : Nat) (last : Int) (xs : List Int) (i j : Nat) : Int := (xs.getD (i * n + j) 0 * xs.getD (t * n + t) 0 - xs.getD (i * n + t) 0 * xs.getD (t * n + j) 0).tdiv last
def elL (n t : Nat) (last : Int) (xs : List Int) : List Int := tab n n fun i j => if t < i ∧ t < j then elAt n t last xs i j else xs.getD (i * n + j) 0
/-- k steps from row t on: the determinant and true, or 0 and false where a cell is beyond the limit. -/
def stR2 (n : Nat) : Nat → Nat → List Int → Int → Int → Int × Bool
  | 0, _, _, last, s => (s * last, true)
  | k + 1, t, xs, last, s =>
    if pivP n t xs = n then (0, true)
    else if nums (elL n t last (pvL n t xs)) = true then stR2 n k (t + 1) (elL n t last (pvL n t xs)) ((pvL n t xs).getD (t * n + t) 0) (if pivP n t xs = t then s else -s)
    else (0, false)
theorem stR2_none {n k t : Nat} {xs : List Int} {last s : Int} (h : pivP n t xs = n) : stR2 n (k + 1) t xs last s = (0, true) := if_pos h
theorem stR2_bad {n k t : Nat} {xs : List Int} {last s : Int} (h : pivP n t xs ≠ n) (h2 : nums (elL n t last (pvL n t xs)) ≠ true) : stR2 n (k + 1) t xs last s = (0, false) := by
  show (if _ then _ else if _ then _ else _) = _
  rw [if_neg h, if_neg h2]
theorem stR2_on {n k t : Nat} {xs : List Int} {last s : Int} (h : pivP n t xs ≠ n) (h2 : nums (elL n t last (pvL n t xs)) = true) : stR2 n (k + 1) t xs last s = stR2 n k (t + 1) (elL n t last (pvL n t xs)) ((pvL n t xs).getD (t * n + t) 0) (if pivP n t xs = t then s else -s) := by
  show (if _ then _ else if _ then _ else _) = _
  rw [if_neg h, if_pos h2]
theorem opL_swap {n p t i j : Nat} {xs : List Int} (hx : xs.length = n * n) (hi : i < n) (hj : j < n) : (opL 0 p t 0 n xs).getD (i * n + j) 0 = xs.getD ((if i = p then t else if i = t then p else i) * n + j) 0 := by
  have hp : i * n + j < xs.length := by rw [hx]; exact idx_lt hi hj
  unfold opL
  simp only [List.getD, List.getElem?_map, List.getElem?_range hp, Option.map_some, Option.getD_some]
  unfold opAt
  rw [if_pos rfl, idx_div hj, idx_mod hj]
  by_cases h1 : i = p
  · rw [if_pos h1, if_pos h1]; rfl
  · rw [if_neg h1, if_neg h1]
    by_cases h2 : i = t
    · rw [if_pos h2, if_pos h2]; rfl
    · rw [if_neg h2, if_neg h2]; rfl
theorem pvL_length (n t : Nat) (xs : List Int) : (pvL n t xs).length = xs.length := by unfold pvL; split; rfl; exact opL_length _ _ _ _ _ _
theorem pvL_at {n t i j : Nat} {xs : List Int} (hx : xs.length = n * n) (hi : i < n) (hj : j < n) : (pvL n t xs).getD (i * n + j) 0 = xs.getD ((if i = t then pivP n t xs else if i = pivP n t xs then t else i) * n + j) 0 := by
  unfold pvL
  by_cases h : pivP n t xs = t
  · rw [if_pos h, h]
    by_cases h1 : i = t
    · rw [if_pos h1, h1]
    · rw [if_neg h1, if_neg h1]
  · rw [if_neg h, opL_swap hx hi hj]
    by_cases h1 : i = t
    · rw [if_pos h1, if_neg (fun e => h (by rw [← e, h1])), if_pos h1]
    · rw [if_neg h1]
      by_cases h2 : i = pivP n t xs
      · rw [if_pos h2, if_neg h1]
      · rw [if_neg h2, if_neg h1]
theorem swR_self (A : Mx) (r : Nat) : swR A r r = A := by
  funext i j
  unfold swR
  by_cases h : i = r
  · rw [if_pos h, h]
  · rw [if_neg h, if_neg h]
/-- The steps end in the determinant. -/
theorem steps_det (n : Nat) (D : Int) (k : Nat) : ∀ (t : Nat) (xs : List Int) (last s : Int) (B : Mx) (d : Int), t + k = n → xs.length = n * n →
    (∀ i j, t ≤ i → i < n → t ≤ j → j < n → xs.getD (i * n + j) 0 = bm t i j B) → last = det t B → last ≠ 0 → s * det n B = D → stR2 n k t xs last s = (d, true) → d = D := by
  induction k with
  | zero =>
    intro t xs last s B d hk _ _ hl _ hD h
    obtain rfl : t = n := by omega
    have h : s * last = d := congrArg Prod.fst h
    rw [← h, hl, hD]
  | succ k ih =>
    intro t xs last s B d hk hx hc hl hl0 hD h
    obtain ⟨p1, p2, p3, p4⟩ := pivP_says (n := n) (t := t) (xs := xs) (by omega)
    have d0 : det t B ≠ 0 := by rw [← hl]; exact hl0
    by_cases hp : pivP n t xs = n
    · rw [stR2_none hp] at h
      have hz := no_pivot (n := n) B (by omega) d0 fun i h1 h2 => by rw [← hc i t h1 h2 (Nat.le_refl _) (by omega)]; exact p3 i h1 (by omega)
      have h : (0 : Int) = d := congrArg Prod.fst h
      rw [← h, ← hD, hz, Int.mul_zero]
    · by_cases hn : nums (elL n t last (pvL n t xs)) = true
      · rw [stR2_on hp hn] at h
        have hpn : pivP n t xs < n := by omega
        have hb := p4 hpn
        obtain ⟨p, hpe⟩ : ∃ p, pivP n t xs = p := ⟨_, rfl⟩
        have hy : ∀ i j, t ≤ i → i < n → t ≤ j → j < n → (pvL n t xs).getD (i * n + j) 0 = bm t i j (swR B t p) := fun i j h1 h2 h3 h4 => by
          rw [pvL_at hx h2 h4, hpe, bm_swap B (by omega)]
          rw [hpe] at p1 hpn
          by_cases e1 : i = t
          · rw [if_pos e1]; exact hc p j p1 hpn h3 h4
          · rw [if_neg e1]
            by_cases e2 : i = p
            · rw [if_pos e2]; exact hc t j (Nat.le_refl _) (by omega) h3 h4
            · rw [if_neg e2]; exact hc i j h1 h2 h3 h4
        have hd : det t (swR B t p) = det t B := det_swap_low B (by omega)
        have ht : t < n := by omega
        have htt := hy t t (Nat.le_refl _) ht (Nat.le_refl _) ht
        refine ih (t + 1) _ _ _ (swR B t p) d (by omega) (tab_length _ _ _) (fun i j h1 h2 h3 h4 => ?_) ?_ ?_ ?_ h
        · show (tab n n fun i j => if t < i ∧ t < j then elAt n t last (pvL n t xs) i j else (pvL n t xs).getD (i * n + j) 0).getD (i * n + j) 0 = _
          rw [tab_at n n _ h2 h4, if_pos ⟨h1, h3⟩]
          unfold elAt
          rw [hy i j (by omega) h2 (by omega) h4, htt, hy i t (by omega) h2 (Nat.le_refl _) ht, hy t j (Nat.le_refl _) ht (by omega) h4, hl, ← hd]
          have sy := sylvester t i j (swR B t p) (by rw [hd]; exact d0)
          rw [Int.mul_comm (bm t i j _), ← sy]
          exact Int.mul_tdiv_cancel_left _ (by rw [hd]; exact d0)
        · rw [htt, bm_diag]
        · rw [pvL_at hx ht ht, if_pos rfl]; exact hb
        · rw [hpe]
          by_cases e : p = t
          · rw [if_pos e, e, swR_self]; exact hD
          · rw [if_neg e, alt_swap (det_lin n) (det_alt n) (fun h => e h.symm) ht (by omega) B, Int.mul_neg, Int.neg_mul, Int.neg_neg]; exact hD
      · rw [stR2_bad hp hn] at h
        exact absurd (congrArg Prod.snd h) (by simp)
/-- What DeterminantBySteps answers, for a square matrix. -/
def stepsM (n : Nat) (xs : List Int) : Int × Bool := stR2 n n 0 xs 1 1
theorem stepsM_det {n : Nat} {xs : List Int} {d : Int} (hx : xs.length = n * n) (h : stepsM n xs = (d, true)) : d = det n (mxL n xs) :=
  steps_det n _ n 0 xs 1 1 (mxL n xs) d (by omega) hx (fun i j _ _ _ _ => (bm_zero i j (mxL n xs)).symm) rfl (by decide) (Int.one_mul _) h
end Go.Proofs.Ytpelnfenfeoeeaa
