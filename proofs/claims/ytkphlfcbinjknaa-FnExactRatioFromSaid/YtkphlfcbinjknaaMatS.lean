/-
  Chapter 3, in the model: IsMatrix, a matrix of zeros, one that is done.
-/
import Derived.Test.YtkphlfcbinjknaaLawInts
import Derived.Test.YtkphlfcbinjknaaMatMath
namespace Go.Proofs.Ytkphlfcbinjknaa
open Go.RowKit

/-- A matrix and a bool are returned, the cells in memory of the call's own; of what was there nothing has changed. -/
def MatRes (m : MR) (w : World) (e : Ending) (w' : World) : Prop :=
  ∃ v : Value, e = .returned (.tuple #[.agg #[.int .i64 m.r, .int .i64 m.c, v], .bool m.ok]) ∧ Own w.heap.size w' v m.zs ∧ Below w.heap.size w w'

end Go.Proofs.Ytkphlfcbinjknaa
