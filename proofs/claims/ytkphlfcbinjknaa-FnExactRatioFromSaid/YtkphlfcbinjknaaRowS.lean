/-
  Chapter 5, in the model: sums and products with a mark for what is beyond the limit; IsRowOp.
-/
import Derived.Test.YtkphlfcbinjknaaBlk4
import Derived.Test.YtkphlfcbinjknaaMatMath
import Derived.IntWalk
namespace Go.Proofs.Ytkphlfcbinjknaa
open Go.RowKit

def badN : Int := -4611686018427387904
def fitB (n : Int) : Int := if NumP n then n else badN
def addB (a b : Int) : Int := if a = badN ∨ b = badN then badN else fitB (wrap64 (a + b))
def mulB (a b : Int) : Int := if a = badN ∨ b = badN then badN else fitB (wrap64 (a * b))
theorem sIn (n a b : Int) (w : World) : Calls Try.prog 26 #[.int .i64 n, .int .i64 a, .int .i64 b] w fun e w' => e = .returned (.bool (decide (a ≤ n ∧ n ≤ b))) ∧ w = w' := by
  by_cases h : a ≤ n ∧ n ≤ b
  · rw [decide_eq_true h]; exact sIn_t n a b w h.1 h.2
  · rw [decide_eq_false h]; exact sIn_f n a b w (by omega)
theorem sIsNum (n : Int) (w : World) : Calls Try.prog 33 #[.int .i64 n] w fun e w' => e = .returned (.bool (decide (NumP n))) ∧ w = w' := by
  by_cases h : NumP n
  · rw [decide_eq_true h]; exact sIsNum_t n w h.1 h.2
  · rw [decide_eq_false h]; exact sIsNum_f n w (by unfold NumP at h; omega)

/-! ### IsRowOp -/
/-- Kind, the two rows and the number, for so many rows. -/
def rangeOp (k i j t rows : Int) : Bool := decide (0 ≤ k ∧ k ≤ 2) && decide (0 ≤ rows ∧ rows ≤ 24) && decide (0 ≤ i ∧ i ≤ rows - 1) && decide (0 ≤ j ∧ j ≤ rows - 1) && decide (NumP t)
def isOp (k i j t rows : Int) : Bool := rangeOp k i j t rows && (if k = 1 then decide (j = i ∧ t = 0) else if k = 0 then decide (j ≠ i ∧ t = 0) else decide (j ≠ i))
end Go.Proofs.Ytkphlfcbinjknaa
