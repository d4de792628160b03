/-
  Chapter 1, in the model: GcdOf.
-/
import Derived.Test.YtncplikadacjnaaRows
import Derived.Test.YtncplikadacjnaaNumMath
import Derived.Test.YtncplikadacjnaaNumIs
import Derived.WalkKit
import Derived.BigQuiet
import Derived.Deep.QuietTactic
import Derived.Lib.Hide
namespace Go.Proofs.Ytncplikadacjnaa
open Go.RowKit

end Go.Proofs.Ytncplikadacjnaa
