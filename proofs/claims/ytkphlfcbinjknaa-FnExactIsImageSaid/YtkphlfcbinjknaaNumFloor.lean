/-
  The model's quotient rounded down.
-/
import Derived.Test.YtkphlfcbinjknaaNumAbs
namespace Go.Proofs.Ytkphlfcbinjknaa
open Go.RowKit

end Go.Proofs.Ytkphlfcbinjknaa
