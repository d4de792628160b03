/-
  The model's quotient rounded down.
-/
import Derived.Test.YtncplikadacjnaaNumAbs
namespace Go.Proofs.Ytncplikadacjnaa
open Go.RowKit

end Go.Proofs.Ytncplikadacjnaa
