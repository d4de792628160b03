/-
  The laws' own helpers on slices of ints: sizes, copies, comparisons, marks.
-/
import Derived.Test.YtkphlfcbinjknaaInts
import Derived.Test.YtkphlfcbinjknaaNumIs
import Derived.BigQuiet
import Derived.Deep.QuietTactic
import Derived.Deep.LoopGhost
namespace Go.Proofs.Ytkphlfcbinjknaa
open Go.RowKit

end Go.Proofs.Ytkphlfcbinjknaa
