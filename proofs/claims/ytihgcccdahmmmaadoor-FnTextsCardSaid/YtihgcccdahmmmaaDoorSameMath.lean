/-
  What SameMatrix answers.
-/
import Derived.Test.YtihgcccdahmmmaaDoorRows
namespace Go.Proofs.YtihgcccdahmmmaaDoor


/-- SameMatrix. -/
def sameM (r c : Int) (xs : List Int) (r' c' : Int) (ys : List Int) : Bool := decide (r = r' ∧ c = c' ∧ xs = ys)
end Go.Proofs.YtihgcccdahmmmaaDoor
