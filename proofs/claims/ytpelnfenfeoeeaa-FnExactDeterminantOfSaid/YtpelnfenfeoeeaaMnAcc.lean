/-
  Plain mathematics of chapter 6: the expansion of a set of columns, column by column. Nothing of a program is used.
-/
import Derived.Test.YtpelnfenfeoeeaaMnMath
namespace Go.Proofs.Ytpelnfenfeoeeaa

/-- The sum of the first p columns of a set, unless a minor that is met has the mark. -/
def accD (n : Nat) (xs : List Int) (rows : List Nat) (S p : Nat) : Option Int := detAcc (fun j => (rowsD xs n rows (colsL n S)).getD j 0) (mnB ((colsL n S).length - 1) (rowsD xs n rows (colsL n S))) p
theorem accD_zero (n : Nat) (xs : List Int) (rows : List Nat) (S : Nat) : accD n xs rows S 0 = some 0 := rfl
def detR (d : Int) : Int × Bool := if d = badN then (0, false) else (d, true)
def exR : Option Int → Int × Bool
  | none => (0, false)
  | some s => (s, true)
theorem detR_bad {d : Int} (h : d = badN) : detR d = (0, false) := if_pos h
theorem detR_num {d : Int} (h : d ≠ badN) : detR d = (d, true) := if_neg h
theorem NumP.ne_bad {d : Int} (h : NumP d) : d ≠ badN := by
  unfold NumP at h
  unfold badN
  omega
/-- What the determinant of a set of columns is. -/
theorem setD_acc {n S k : Nat} {xs : List Int} {rows : List Nat} (hk : (colsL n S).length = k + 1) : setD n xs rows S = match accD n xs rows S (k + 1) with
    | none => badN
    | some s => fitB s := by
  unfold setD accD
  rw [hk]
  rfl
theorem setD_none {n S k : Nat} {xs : List Int} {rows : List Nat} (hk : (colsL n S).length = k + 1) (h : accD n xs rows S (k + 1) = none) : setD n xs rows S = badN := by rw [setD_acc hk, h]
theorem setD_bad {n S k : Nat} {xs : List Int} {rows : List Nat} {s : Int} (hk : (colsL n S).length = k + 1) (h : accD n xs rows S (k + 1) = some s) (hs : ¬ NumP s) : setD n xs rows S = badN := by
  rw [setD_acc hk, h]
  exact if_neg hs
theorem setD_num {n S k : Nat} {xs : List Int} {rows : List Nat} {s : Int} (hk : (colsL n S).length = k + 1) (h : accD n xs rows S (k + 1) = some s) (hs : NumP s) : setD n xs rows S = s := by
  rw [setD_acc hk, h]
  exact if_pos hs
/-- The cell of a column in the first row that is left. -/
theorem acc_cell {n S c k : Nat} {xs : List Int} {rows : List Nat} (hc : c < n) (hb : S.testBit c = true) (hk : (colsL n S).length = k + 1) :
    (rowsD xs n rows (colsL n S)).getD (colsL c S).length 0 = xs.getD (rows.getD (rows.length - (k + 1)) 0 * n + c) 0 := by
  obtain ⟨h1, h2⟩ := colsL_at hc hb
  rw [setD_first hk _ (by omega), h2]
section
variable {n S c k : Nat} {xs : List Int} {rows : List Nat} {s : Int}
theorem acc_skip (hc : c < n) (hb : S.testBit c = true) (hk : (colsL n S).length = k + 1) (h : accD n xs rows S (colsL c S).length = some s) (h0 : xs.getD (rows.getD (rows.length - (k + 1)) 0 * n + c) 0 = 0) :
    accD n xs rows S (colsL (c + 1) S).length = some s := by
  rw [colsL_in hb]
  exact detAcc_skip h (by show (rowsD xs n rows (colsL n S)).getD _ 0 = 0; rw [acc_cell hc hb hk]; exact h0)
theorem acc_bad (h6 : n ≤ 6) (hS : S < 64) (hr : k + 1 ≤ rows.length) (hc : c < n) (hb : S.testBit c = true) (hk : (colsL n S).length = k + 1) (h : accD n xs rows S (colsL c S).length = some s) (h0 : xs.getD (rows.getD (rows.length - (k + 1)) 0 * n + c) 0 ≠ 0) (h1 : setD n xs rows (lessS S c) = badN) :
    accD n xs rows S (k + 1) = none := by
  refine detAcc_none (detAcc_bad h (by rw [acc_cell hc hb hk]; exact h0) ?_) (by have := (colsL_at hc hb).1; omega)
  rw [hk, Nat.add_sub_cancel, mnB_less h6 hS hc hb hk hr]
  exact h1
theorem acc_add (h6 : n ≤ 6) (hS : S < 64) (hr : k + 1 ≤ rows.length) (hc : c < n) (hb : S.testBit c = true) (hk : (colsL n S).length = k + 1) (h : accD n xs rows S (colsL c S).length = some s) (h0 : xs.getD (rows.getD (rows.length - (k + 1)) 0 * n + c) 0 ≠ 0) (h1 : setD n xs rows (lessS S c) ≠ badN) :
    accD n xs rows S (colsL (c + 1) S).length = some (s + sg (colsL c S).length * xs.getD (rows.getD (rows.length - (k + 1)) 0 * n + c) 0 * setD n xs rows (lessS S c)) := by
  have e : mnB ((colsL n S).length - 1) (rowsD xs n rows (colsL n S)) (colsL c S).length = setD n xs rows (lessS S c) := by rw [hk, Nat.add_sub_cancel, mnB_less h6 hS hc hb hk hr]
  have := detAcc_add h (by show (rowsD xs n rows (colsL n S)).getD _ 0 ≠ 0; rw [acc_cell hc hb hk]; exact h0) (by rw [e]; exact h1)
  rw [acc_cell hc hb hk, e] at this
  rw [colsL_in hb]
  exact this
end
theorem rowsD_nums {n k : Nat} {xs : List Int} {rows cs : List Nat} (nx : nums xs = true) (hc : cs.length = k + 1) (j : Nat) (hj : j < k + 1) : NumP ((rowsD xs n rows cs).getD j 0) := by
  rw [setD_first hc j hj]
  obtain ⟨p, hp⟩ : ∃ p, rows.getD (rows.length - (k + 1)) 0 * n + cs.getD j 0 = p := ⟨_, rfl⟩
  rw [hp]
  rcases Nat.lt_or_ge p xs.length with h1 | h1
  · exact nums_at nx h1
  · rw [List.getD, List.getElem?_eq_none h1]; exact ⟨by decide, by decide⟩
theorem acc_bd {n S k p : Nat} {xs : List Int} {rows : List Nat} {s : Int} (nx : nums xs = true) (hk : (colsL n S).length = k + 1) (hp : p ≤ k + 1) (h : accD n xs rows S p = some s) : -((p : Int) * 160000000000000000) ≤ s ∧ s ≤ (p : Int) * 160000000000000000 :=
  detAcc_bd (fun j hj => rowsD_nums nx hk j (by omega)) (fun j _ => detB_or _ _) h
theorem cols_card : ∀ n, n ≤ 6 → ∀ S, S < 2 ^ n → (colsL 6 S).length = (colsL n S).length := by decide +kernel
theorem pow_64 : ∀ n, n ≤ 6 → 2 ^ n ≤ 64 := by decide
end Go.Proofs.Ytpelnfenfeoeeaa
