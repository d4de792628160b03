/-
  The laws' own helpers on matrices: sizes, copies, comparisons, marks.
-/
import Derived.Test.YtkphlfcbinjknaaLawInts
namespace Go.Proofs.Ytkphlfcbinjknaa
open Go.RowKit

/-- A matrix whose cells lie in a new block. -/
def NewMat (r c : Int) (zs : List Int) (w : World) (e : Ending) (w' : World) : Prop :=
  ∃ g : Nat, e = .returned (.agg #[.int .i64 r, .int .i64 c, .slice (some ⟨g, 0, none⟩) zs.length zs.length]) ∧ w.heap.size ≤ g ∧ Ints w' g zs ∧ Below w.heap.size w w'

end Go.Proofs.Ytkphlfcbinjknaa
