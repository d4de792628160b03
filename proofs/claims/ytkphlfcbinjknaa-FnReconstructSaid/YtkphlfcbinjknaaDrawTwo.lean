/-
  The drawing of two numbers: two ints of 64 bits are returned, and nothing that was there changes.
-/
import Derived.Test.YtkphlfcbinjknaaDraw
namespace Go.Proofs.Ytkphlfcbinjknaa
open Go.RowKit

def In64 (r : Int) : Prop := -9223372036854775808 ≤ r ∧ r ≤ 9223372036854775807

end Go.Proofs.Ytkphlfcbinjknaa
