/-
  What SameMatrix answers.
-/
import Derived.Test.YtdnajkoeojlnbaaRows
namespace Go.Proofs.Ytdnajkoeojlnbaa


/-- SameMatrix. -/
def sameM (r c : Int) (xs : List Int) (r' c' : Int) (ys : List Int) : Bool := decide (r = r' ∧ c = c' ∧ xs = ys)
end Go.Proofs.Ytdnajkoeojlnbaa
