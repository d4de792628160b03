/-
  Chapter 4's mathematics: the texts of rows of numbers, of matrices, of ratios. No function of the program is named.
-/
import Derived.Test.YtihgcccdahmmmaaDoorItoa
import Derived.Test.YtihgcccdahmmmaaDoorInts
namespace Go.Proofs.YtihgcccdahmmmaaDoor
open Go.RowKit
open Go.Lib (decDigits itoa nDigits)

/-- The numbers fit. -/
def I64 (xs : List Int) : Prop := ∀ i, -9223372036854775808 ≤ xs.getD i 0 ∧ xs.getD i 0 ≤ 9223372036854775807
theorem itoa_len (n : Int) (h0 : -9223372036854775808 ≤ n) (h1 : n ≤ 9223372036854775807) : (itoa n).length ≤ 20 := by
  rcases Int.lt_or_le n 0 with h | h
  · obtain ⟨m, rfl⟩ : ∃ m : Nat, n = -(m : Int) := ⟨n.natAbs, by omega⟩
    rw [Lib.itoa_neg m (by omega), List.length_cons, dec_len]
    have := nDigits_le 18 m (by omega)
    omega
  · obtain ⟨m, rfl⟩ := Int.eq_ofNat_of_zero_le h
    rw [Lib.itoa_nonneg, dec_len]
    have := nDigits_le 18 m (by omega)
    omega
/-- The first i numbers of a row, with spaces between. -/
def itx (xs : List Int) : Nat → List UInt8
  | 0 => []
  | i + 1 => (if 0 < i then itx xs i ++ [32] else itx xs i) ++ itoa (xs.getD i 0)
theorem itx_len {xs : List Int} (h : I64 xs) (i : Nat) : (itx xs i).length ≤ 21 * i := by
  induction i with
  | zero => exact Nat.le_refl _
  | succ i ih =>
    have := itoa_len _ (h i).1 (h i).2
    unfold itx
    split <;> simp only [List.length_append, List.length_cons, List.length_nil] <;> omega
/-- The first i cells of a matrix of C columns, behind the text t. -/
def mtx (t : List UInt8) (C : Nat) (xs : List Int) : Nat → List UInt8
  | 0 => t
  | i + 1 => (if 0 < i ∧ i % C = 0 then mtx t C xs i ++ [59] else if 0 < i then mtx t C xs i ++ [32] else mtx t C xs i) ++ itoa (xs.getD i 0)
theorem mtx_len {t : List UInt8} {C : Nat} {xs : List Int} (h : I64 xs) (i : Nat) : (mtx t C xs i).length ≤ t.length + 21 * i := by
  induction i with
  | zero => exact Nat.le_refl _
  | succ i ih =>
    have := itoa_len _ (h i).1 (h i).2
    unfold mtx
    split
    · simp only [List.length_append, List.length_cons, List.length_nil]; omega
    · split <;> simp only [List.length_append, List.length_cons, List.length_nil] <;> omega
/-- The text of a matrix. -/
def matText (R C : Nat) (xs : List Int) : List UInt8 := mtx (itoa R ++ [120] ++ itoa C ++ [91]) C xs xs.length ++ [93]
end Go.Proofs.YtihgcccdahmmmaaDoor
