/-
  Chapter 1, in the model: |n|.
-/
import Derived.Test.YtncplikadacjnaaRows
import Derived.Test.YtncplikadacjnaaNumMath
import Derived.Test.YtncplikadacjnaaNumIs
import Derived.WalkKit
import Derived.BigQuiet
import Derived.Deep.QuietTactic
import Derived.Lib.Hide
namespace Go.Proofs.Ytncplikadacjnaa
open Go.RowKit

theorem tdiv_bdw (n d : Int) (h1 : -4000000000000000000 ≤ n) (h2 : n ≤ 4000000000000000000) : -4000000000000000000 ≤ n.tdiv d ∧ n.tdiv d ≤ 4000000000000000000 := by
  have q : (n.tdiv d).natAbs ≤ n.natAbs := by rw [Int.natAbs_tdiv]; exact Nat.div_le_self _ _
  omega
end Go.Proofs.Ytncplikadacjnaa
