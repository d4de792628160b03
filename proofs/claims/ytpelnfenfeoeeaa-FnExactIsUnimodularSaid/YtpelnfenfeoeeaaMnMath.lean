/-
  Plain mathematics of chapter 6: determinants of the last of some rows in a set of columns, the columns as the bits of a number. Nothing of a program is used.
-/
import Derived.Test.YtpelnfenfeoeeaaElTo
namespace Go.Proofs.Ytpelnfenfeoeeaa

/-- The columns of a set, in order. -/
def colsL (n S : Nat) : List Nat := (List.range n).filter fun c => S.testBit c
/-- A set without a column, as 64 bits. -/
def lessS (S c : Nat) : Nat := S &&& (18446744073709551615 - 2 ^ c)
/-- A square matrix: the last rows, as many as there are columns. -/
def rowsD (xs : List Int) (n : Nat) (rows cs : List Nat) : List Int := tab cs.length cs.length fun i j => xs.getD (rows.getD (rows.length - cs.length + i) 0 * n + cs.getD j 0) 0
def setD (n : Nat) (xs : List Int) (rows : List Nat) (S : Nat) : Int := detB (colsL n S).length (rowsD xs n rows (colsL n S))
theorem colsL_succ (c S : Nat) : colsL (c + 1) S = if S.testBit c then colsL c S ++ [c] else colsL c S := by
  unfold colsL
  rw [List.range_succ, List.filter_append]
  by_cases h : S.testBit c = true
  · rw [if_pos h]; simp [h]
  · rw [if_neg h]; simp [h]
theorem colsL_in {c S : Nat} (h : S.testBit c = true) : (colsL (c + 1) S).length = (colsL c S).length + 1 := by rw [colsL_succ, if_pos h]; simp
theorem colsL_out {c S : Nat} (h : S.testBit c = false) : colsL (c + 1) S = colsL c S := by rw [colsL_succ, if_neg (by rw [h]; decide)]
theorem colsL_pre {c n S : Nat} (h : c ≤ n) : ∃ r, colsL n S = colsL c S ++ r := by
  obtain ⟨k, rfl⟩ := Nat.exists_eq_add_of_le h
  unfold colsL
  rw [List.range_add, List.filter_append]
  exact ⟨_, rfl⟩
theorem colsL_at {c n S : Nat} (hc : c < n) (h : S.testBit c = true) : (colsL c S).length < (colsL n S).length ∧ (colsL n S).getD (colsL c S).length 0 = c := by
  obtain ⟨r, e⟩ := colsL_pre (S := S) (show c + 1 ≤ n from hc)
  rw [e, colsL_succ, if_pos h]
  refine ⟨by simp, ?_⟩
  simp [List.getD]
theorem colsL_le {c n S : Nat} (h : c ≤ n) : (colsL c S).length ≤ (colsL n S).length := by
  obtain ⟨r, e⟩ := colsL_pre (S := S) h
  rw [e, List.length_append]; omega
theorem colsL_less : ∀ n, n ≤ 6 → ∀ S, S < 64 → ∀ c, c < n → S.testBit c = true → colsL n (lessS S c) = (colsL n S).eraseIdx (colsL c S).length ∧ lessS S c < 64 := by
  decide +kernel
theorem lessS_lt : ∀ n, n ≤ 6 → ∀ S, S < 2 ^ n → ∀ c, c < n → lessS S c < 2 ^ n := by
  decide +kernel
theorem colsL_none : ∀ n, n ≤ 6 → ∀ S, S < 2 ^ n → (colsL n S).length = 0 → S = 0 := by
  decide +kernel
theorem colsL_full : ∀ n, n ≤ 6 → colsL n (2 ^ n - 1) = List.range n := by decide +kernel
theorem colsL_fullLess : ∀ n, n ≤ 6 → ∀ j, j < n → colsL n (lessS (2 ^ n - 1) j) = (List.range n).eraseIdx j := by decide +kernel
theorem colsL_zero (n : Nat) : colsL n 0 = [] := by unfold colsL; simp
theorem erase_getD (cs : List Nat) (t j : Nat) : (cs.eraseIdx t).getD j 0 = cs.getD (skp t j) 0 := by
  unfold skp
  rw [List.getD, List.getD, List.getElem?_eraseIdx]
  split <;> rfl
theorem rowsD_minor (xs : List Int) (n : Nat) (rows cs : List Nat) (k t : Nat) (hc : cs.length = k + 1) (hr : k + 1 ≤ rows.length) (ht : t < k + 1) :
    woL (k + 1) 0 (t : Int) (rowsD xs n rows cs) ((k + 1) * (k + 1)) = rowsD xs n rows (cs.eraseIdx t) := by
  have hl : (cs.eraseIdx t).length = k := by rw [List.length_eraseIdx, hc, if_pos ht]; omega
  have e := woL_tab k 0 t (rowsD xs n rows cs) (by omega) ht
  rw [show ((0 : Nat) : Int) = 0 from rfl] at e
  rw [e]
  unfold rowsD
  rw [hl, hc]
  have hl2 : (tab k k fun i j => xs.getD (rows.getD (rows.length - k + i) 0 * n + (cs.eraseIdx t).getD j 0) 0).length = k * k := tab_length _ _ _
  refine (tab_ext hl2 fun i j hi hj => ?_).symm
  rw [tab_at k k _ hi hj, tab_at (k + 1) (k + 1) _ (skp_lt hi) (skp_lt hj), erase_getD, skp_zero]
  rw [show rows.length - (k + 1) + (i + 1) = rows.length - k + i by omega]
/-- What the expansion of k + 1 columns meets. -/
theorem setD_first {xs : List Int} {n : Nat} {rows cs : List Nat} {k : Nat} (hc : cs.length = k + 1) (j : Nat) (hj : j < k + 1) : (rowsD xs n rows cs).getD j 0 = xs.getD (rows.getD (rows.length - (k + 1)) 0 * n + cs.getD j 0) 0 := by
  have := tab_at (k + 1) (k + 1) (fun i j => xs.getD (rows.getD (rows.length - (k + 1) + i) 0 * n + cs.getD j 0) 0) (show 0 < k + 1 by omega) hj
  rw [Nat.zero_mul, Nat.zero_add, Nat.add_zero] at this
  unfold rowsD
  rw [hc]
  exact this
theorem setD_zero (n : Nat) (xs : List Int) (rows : List Nat) : setD n xs rows 0 = 1 := by unfold setD; rw [colsL_zero]; rfl
theorem setD_or (n : Nat) (xs : List Int) (rows : List Nat) (S : Nat) : setD n xs rows S = badN ∨ NumP (setD n xs rows S) := detB_or _ _
theorem mnB_less {n S c k : Nat} {xs : List Int} {rows : List Nat} (h6 : n ≤ 6) (hS : S < 64) (hc : c < n) (hb : S.testBit c = true) (hk : (colsL n S).length = k + 1) (hr : k + 1 ≤ rows.length) :
    mnB k (rowsD xs n rows (colsL n S)) (colsL c S).length = setD n xs rows (lessS S c) := by
  obtain ⟨e, -⟩ := colsL_less n h6 S hS c hc hb
  have hp := (colsL_at hc hb).1
  unfold mnB setD
  rw [e, List.length_eraseIdx, hk, if_pos (by omega), Nat.add_sub_cancel, rowsD_minor xs n rows _ k _ hk hr (by omega)]
theorem less_card {n S c k : Nat} (h6 : n ≤ 6) (hS : S < 64) (hc : c < n) (hb : S.testBit c = true) (hk : (colsL n S).length = k + 1) : (colsL n (lessS S c)).length = k := by
  obtain ⟨e, -⟩ := colsL_less n h6 S hS c hc hb
  have hp := (colsL_at hc hb).1
  rw [e, List.length_eraseIdx, hk, if_pos (by omega)]; omega
/-- All rows, all columns. -/
theorem setD_all {n : Nat} {xs : List Int} (h6 : n ≤ 6) (hx : xs.length = n * n) : setD n xs (List.range n) (2 ^ n - 1) = detB n xs := by
  unfold setD
  rw [colsL_full n h6]
  unfold rowsD
  simp only [List.length_range, Nat.sub_self, Nat.zero_add]
  congr 1
  refine (tab_ext hx fun i j hi hj => ?_).symm
  simp [List.getD, hi, hj]
/-- The rows but one. -/
def rowsBut (n : Nat) (e : Int) : List Nat := (List.range n).filter fun (r : Nat) => decide ((r : Int) ≠ e)
theorem rowsBut_all (n : Nat) : rowsBut n (-1) = List.range n := by
  unfold rowsBut
  refine List.filter_eq_self.mpr fun r _ => decide_eq_true (by omega)
theorem rowsBut_one : ∀ n, n ≤ 6 → ∀ i : Nat, i < n → rowsBut n (i : Int) = (List.range (n - 1)).map (skp i) := by decide +kernel
theorem rowsBut_le (n : Nat) (e : Int) : (rowsBut n e).length ≤ n := by
  unfold rowsBut
  have := List.length_filter_le (fun (r : Nat) => decide ((r : Int) ≠ e)) (List.range n)
  simpa using this
theorem rowsBut_lt {n : Nat} {e : Int} {k : Nat} (h : k < (rowsBut n e).length) : (rowsBut n e).getD k 0 < n := by
  have := List.getElem_mem h
  rw [List.getD, List.getElem?_eq_getElem h]
  unfold rowsBut at this
  exact List.mem_range.mp (List.mem_filter.mp this).1
theorem rowsBut_in {e : Int} {r : Nat} (h : (r : Int) ≠ e) : rowsBut (r + 1) e = rowsBut r e ++ [r] := by
  unfold rowsBut
  rw [List.range_succ, List.filter_append]
  simp [h]
theorem rowsBut_out {e : Int} {r : Nat} (h : (r : Int) = e) : rowsBut (r + 1) e = rowsBut r e := by
  unfold rowsBut
  rw [List.range_succ, List.filter_append]
  simp [h]
theorem setD_cross {n i j : Nat} {xs : List Int} (h6 : n ≤ 6) (hx : xs.length = n * n) (hi : i < n) (hj : j < n) : setD n xs (rowsBut n i) (lessS (2 ^ n - 1) j) = detB (n - 1) (woL n i j xs (n * n)) := by
  obtain ⟨p, rfl⟩ : ∃ p, n = p + 1 := ⟨n - 1, by omega⟩
  rw [woL_tab p i j xs hi hj]
  unfold setD
  rw [colsL_fullLess _ h6 j hj, rowsBut_one _ h6 i hi]
  have hl : ((List.range (p + 1)).eraseIdx j).length = p := by rw [List.length_eraseIdx, List.length_range, if_pos hj]; omega
  unfold rowsD
  rw [hl]
  show detB p _ = detB p _
  congr 1
  have hl2 : (tab p p fun a b => xs.getD (skp i a * (p + 1) + skp j b) 0).length = p * p := tab_length _ _ _
  refine (tab_ext hl2 fun a b ha hb => ?_).symm
  rw [tab_at p p _ ha hb, erase_getD]
  have h1 := skp_lt (j := j) hb
  simp [List.getD, ha, h1]
end Go.Proofs.Ytpelnfenfeoeeaa
