/-
  Plain mathematics of chapter 6: a step of the elimination, cell by cell. Nothing of a program is used.
-/
import Derived.Test.YtpelnfenfeoeeaaStepL
namespace Go.Proofs.Ytpelnfenfeoeeaa

theorem tab_self {n : Nat} {xs : List Int} (hx : xs.length = n * n) : (tab n n fun i j => xs.getD (i * n + j) 0) = xs := (tab_ext hx fun _ _ _ _ => rfl).symm
/-- The cells ahead of row i, column j are done. -/
def elTo (n t : Nat) (last : Int) (xs : List Int) (i j : Nat) : List Int := tab n n fun p q => if t < p ∧ t < q ∧ (p < i ∨ (p = i ∧ q < j)) then elAt n t last xs p q else xs.getD (p * n + q) 0
theorem elTo_length (n t : Nat) (last : Int) (xs : List Int) (i j : Nat) : (elTo n t last xs i j).length = n * n := tab_length _ _ _
theorem elTo_at {n t : Nat} {last : Int} {xs : List Int} {i j p q : Nat} (hp : p < n) (hq : q < n) : (elTo n t last xs i j).getD (p * n + q) 0 = if t < p ∧ t < q ∧ (p < i ∨ (p = i ∧ q < j)) then elAt n t last xs p q else xs.getD (p * n + q) 0 := tab_at n n _ hp hq
theorem elTo_old {n t : Nat} {last : Int} {xs : List Int} {i j p q : Nat} (hp : p < n) (hq : q < n) (h : p ≤ t ∨ q ≤ t ∨ (p = i ∧ j ≤ q)) : (elTo n t last xs i j).getD (p * n + q) 0 = xs.getD (p * n + q) 0 := by
  rw [elTo_at hp hq, if_neg (by omega)]
theorem elTo_start {n t : Nat} {last : Int} {xs : List Int} (hx : xs.length = n * n) : elTo n t last xs (t + 1) (t + 1) = xs := by
  refine (tab_ext hx fun i j _ _ => ?_).symm
  rw [if_neg (by omega)]
theorem elTo_step {n t : Nat} {last : Int} {xs : List Int} {i j : Nat} (hi : i < n) (hj : j < n) (ti : t < i) (tj : t < j) : (elTo n t last xs i j).set (i * n + j) (elAt n t last xs i j) = elTo n t last xs i (j + 1) := by
  refine tab_ext (by rw [List.length_set, elTo_length]) fun p q hp hq => ?_
  rw [getD_set _ _ _ _ (by rw [elTo_length]; exact idx_lt hi hj), elTo_at hp hq]
  by_cases e : p * n + q = i * n + j
  · obtain ⟨rfl, rfl⟩ := idx_inj hq hj e
    rw [if_pos rfl, if_pos (by omega)]
  · rw [if_neg e]
    have : ¬ (p = i ∧ q = j) := fun h => e (by rw [h.1, h.2])
    by_cases h : t < p ∧ t < q ∧ (p < i ∨ (p = i ∧ q < j))
    · rw [if_pos h, if_pos (by omega)]
    · rw [if_neg h, if_neg (by omega)]
theorem elTo_row {n t : Nat} {last : Int} {xs : List Int} {i : Nat} : elTo n t last xs i n = elTo n t last xs (i + 1) (t + 1) := by
  refine tab_ext (elTo_length _ _ _ _ _ _) fun p q hp hq => ?_
  rw [elTo_at hp hq]
  by_cases h : t < p ∧ t < q ∧ (p < i ∨ (p = i ∧ q < n))
  · rw [if_pos h, if_pos (by omega)]
  · rw [if_neg h, if_neg (by omega)]
theorem elTo_all {n t : Nat} {last : Int} {xs : List Int} : elTo n t last xs n (t + 1) = elL n t last xs := by
  refine tab_ext (elTo_length _ _ _ _ _ _) fun p q hp hq => ?_
  rw [elTo_at hp hq]
  by_cases h : t < p ∧ t < q
  · rw [if_pos h, if_pos (by omega)]
  · rw [if_neg h, if_neg (by omega)]
theorem nums_set {zs : List Int} {k : Nat} {z : Int} (h : nums zs = true) (hz : NumP z) : nums (zs.set k z) = true := by
  rcases Nat.lt_or_ge k zs.length with hk | hk
  · refine nums_true fun j hj => ?_
    rw [List.length_set] at hj
    rw [getD_set _ _ _ _ hk]
    by_cases e : j = k
    · rw [if_pos e]; exact hz
    · rw [if_neg e]; exact nums_at h hj
  · rw [List.set_eq_of_length_le hk]; exact h
theorem elL_bad {n t : Nat} {last : Int} {xs : List Int} {i j : Nat} (hi : i < n) (hj : j < n) (ti : t < i) (tj : t < j) (h : ¬ NumP (elAt n t last xs i j)) : nums (elL n t last xs) ≠ true := by
  have := nums_false (zs := elL n t last xs) (j := i * n + j) (by rw [show (elL n t last xs).length = n * n from tab_length _ _ _]; exact idx_lt hi hj) (by rw [show (elL n t last xs).getD (i * n + j) 0 = elAt n t last xs i j from (tab_at n n _ hi hj).trans (if_pos ⟨ti, tj⟩)]; exact h)
  rw [this]; decide
theorem elL_tt {n t : Nat} {last : Int} {xs : List Int} (ht : t < n) : (elL n t last xs).getD (t * n + t) 0 = xs.getD (t * n + t) 0 := (tab_at n n _ ht ht).trans (if_neg (by omega))
theorem tdiv_in {x y b : Int} (h1 : -b ≤ x) (h2 : x ≤ b) : -b ≤ x.tdiv y ∧ x.tdiv y ≤ b := by
  have e : (x.tdiv y).natAbs = x.natAbs / y.natAbs := Int.natAbs_tdiv x y
  have l := Nat.div_le_self x.natAbs y.natAbs
  omega
/-- The swap makes numbers of numbers. -/
theorem pvL_nums {n t : Nat} {xs : List Int} (hx : xs.length = n * n) (hp : pivP n t xs < n) (ht : t < n) (h : nums xs = true) : nums (pvL n t xs) = true := by
  refine nums_true fun p hp' => ?_
  rw [pvL_length, hx] at hp'
  have e : p = p / n * n + p % n := by rw [Nat.mul_comm]; exact (Nat.div_add_mod p n).symm
  have h1 : p / n < n := Nat.div_lt_of_lt_mul hp'
  have h2 : p % n < n := Nat.mod_lt p (by omega)
  rw [e, pvL_at hx h1 h2]
  refine nums_at h ?_
  rw [hx]
  refine idx_lt ?_ h2
  split
  · exact hp
  · split
    · exact ht
    · exact h1
end Go.Proofs.Ytpelnfenfeoeeaa
