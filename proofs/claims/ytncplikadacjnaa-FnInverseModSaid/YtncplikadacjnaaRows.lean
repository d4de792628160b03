/-
  No cell of these rows narrows 'for every input' (looked for: loops, veiled, ifaces, maps, wideKeys, modest, calm, conditions, laid).
  DERIVED. THE GIVEN ROWS OF THIS SEAT. 9 by the template 'for every input the law returns true; each argument reads behind the call as it read before'; 0 by the template 'total and deterministic' (their statements: YtncplikadacjnaaTotals.lean).
  GIVEN WITH THE SEED: the statements are not yours to turn. If you find one false, say at which input.
  Laid BY PROGRAM, IN A SANDBOX (cutbox-rows.mjs): the forced cells as the released guide's own fill.sh prints them over the translation 2575221d26aacc87… (all of the seat's roots in one cut). By AI agents, Wed Nov 11 2026. No macro, syntax, notation, axiom, sorry.
-/
import Derived.Test.YtncplikadacjnaaChecked
import GoSem.Claim
import GoSem.ClaimJoined
import GoSem.ClaimMapViews
import Derived.JoinedTies
import Derived.KernelRfl
namespace Go.Proofs.Ytncplikadacjnaa
/- THE CELL 'sum', in the pinned program and in every row, IS THE sha256 OF THE DUMP (.gsa) THAT YtncplikadacjnaaProg.lean LOADS. Nothing in Lean hashes anything: it is a label: what it is worth is what the hold of that sum in a sandbox is worth. -/
noncomputable def Try.pinned : Pinned := { name := "ytncplikadacjnaa", sum := "2575221d26aacc87b92eed41ccf88eb62f95736ef4b88a4aa92922203fb40f44", checked := Try.checked }
namespace Rows
def none {H : Type} : Left H := { results := [], args := [] }

/-- 'laws.FnImages': WHATEVER THE INPUT: true; the input reads as it did. -/
def fnImagesSpec : ChangeSpec := { name := "fnImages", fn := fun _ => fun
  | [d] => { results := [.lit (.bool true)], args := [d] }
  | _ => none }
def fnImagesRow : OpenClaim := { program := "ytncplikadacjnaa", sum := "2575221d26aacc87b92eed41ccf88eb62f95736ef4b88a4aa92922203fb40f44", func := "loop.example/g03411/laws.FnImages", spec := "fnImages", unfollowed := true, recurses := true, apart := false }
def FnImagesSaid : Prop := fnImagesRow.holds Try.pinned (OpenSpec.ofChange fnImagesSpec)

/-- ITS FALSE NEIGHBOUR: 'it returns false'. Refute it at one input. -/
def fnImagesWrong : ChangeSpec := { name := "fnImages", fn := fun _ => fun
  | [d] => { results := [.lit (.bool false)], args := [d] }
  | _ => none }
def FnImagesWrongFalsely : Prop := fnImagesRow.holds Try.pinned (OpenSpec.ofChange fnImagesWrong)

/-- 'laws.FnInverseMod': WHATEVER THE INPUT: true; the input reads as it did. -/
def fnInverseModSpec : ChangeSpec := { name := "fnInverseMod", fn := fun _ => fun
  | [d] => { results := [.lit (.bool true)], args := [d] }
  | _ => none }
def fnInverseModRow : OpenClaim := { program := "ytncplikadacjnaa", sum := "2575221d26aacc87b92eed41ccf88eb62f95736ef4b88a4aa92922203fb40f44", func := "loop.example/g03411/laws.FnInverseMod", spec := "fnInverseMod", unfollowed := true, recurses := true, apart := false }
def FnInverseModSaid : Prop := fnInverseModRow.holds Try.pinned (OpenSpec.ofChange fnInverseModSpec)

/-- ITS FALSE NEIGHBOUR: 'it returns false'. Refute it at one input. -/
def fnInverseModWrong : ChangeSpec := { name := "fnInverseMod", fn := fun _ => fun
  | [d] => { results := [.lit (.bool false)], args := [d] }
  | _ => none }
def FnInverseModWrongFalsely : Prop := fnInverseModRow.holds Try.pinned (OpenSpec.ofChange fnInverseModWrong)

/-- 'laws.FnExactIsPrime': WHATEVER THE INPUT: true; the input reads as it did. -/
def fnExactIsPrimeSpec : ChangeSpec := { name := "fnExactIsPrime", fn := fun _ => fun
  | [d] => { results := [.lit (.bool true)], args := [d] }
  | _ => none }
def fnExactIsPrimeRow : OpenClaim := { program := "ytncplikadacjnaa", sum := "2575221d26aacc87b92eed41ccf88eb62f95736ef4b88a4aa92922203fb40f44", func := "loop.example/g03411/laws.FnExactIsPrime", spec := "fnExactIsPrime", unfollowed := true, recurses := true, apart := false }
def FnExactIsPrimeSaid : Prop := fnExactIsPrimeRow.holds Try.pinned (OpenSpec.ofChange fnExactIsPrimeSpec)

/-- ITS FALSE NEIGHBOUR: 'it returns false'. Refute it at one input. -/
def fnExactIsPrimeWrong : ChangeSpec := { name := "fnExactIsPrime", fn := fun _ => fun
  | [d] => { results := [.lit (.bool false)], args := [d] }
  | _ => none }
def FnExactIsPrimeWrongFalsely : Prop := fnExactIsPrimeRow.holds Try.pinned (OpenSpec.ofChange fnExactIsPrimeWrong)

/-- 'laws.FnExactReduceMod': WHATEVER THE INPUT: true; the input reads as it did. -/
def fnExactReduceModSpec : ChangeSpec := { name := "fnExactReduceMod", fn := fun _ => fun
  | [d1, d2] => { results := [.lit (.bool true)], args := [d1, d2] }
  | _ => none }
def fnExactReduceModRow : OpenClaim := { program := "ytncplikadacjnaa", sum := "2575221d26aacc87b92eed41ccf88eb62f95736ef4b88a4aa92922203fb40f44", func := "loop.example/g03411/laws.FnExactReduceMod", spec := "fnExactReduceMod", unfollowed := true, recurses := true, apart := false }
def FnExactReduceModSaid : Prop := fnExactReduceModRow.holds Try.pinned (OpenSpec.ofChange fnExactReduceModSpec)

/-- ITS FALSE NEIGHBOUR: 'it returns false'. Refute it at one input. -/
def fnExactReduceModWrong : ChangeSpec := { name := "fnExactReduceMod", fn := fun _ => fun
  | [d1, d2] => { results := [.lit (.bool false)], args := [d1, d2] }
  | _ => none }
def FnExactReduceModWrongFalsely : Prop := fnExactReduceModRow.holds Try.pinned (OpenSpec.ofChange fnExactReduceModWrong)

/-- 'laws.FnExactInverseModulo': WHATEVER THE INPUT: true; the input reads as it did. -/
def fnExactInverseModuloSpec : ChangeSpec := { name := "fnExactInverseModulo", fn := fun _ => fun
  | [d1, d2] => { results := [.lit (.bool true)], args := [d1, d2] }
  | _ => none }
def fnExactInverseModuloRow : OpenClaim := { program := "ytncplikadacjnaa", sum := "2575221d26aacc87b92eed41ccf88eb62f95736ef4b88a4aa92922203fb40f44", func := "loop.example/g03411/laws.FnExactInverseModulo", spec := "fnExactInverseModulo", unfollowed := true, recurses := true, apart := false }
def FnExactInverseModuloSaid : Prop := fnExactInverseModuloRow.holds Try.pinned (OpenSpec.ofChange fnExactInverseModuloSpec)

/-- ITS FALSE NEIGHBOUR: 'it returns false'. Refute it at one input. -/
def fnExactInverseModuloWrong : ChangeSpec := { name := "fnExactInverseModulo", fn := fun _ => fun
  | [d1, d2] => { results := [.lit (.bool false)], args := [d1, d2] }
  | _ => none }
def FnExactInverseModuloWrongFalsely : Prop := fnExactInverseModuloRow.holds Try.pinned (OpenSpec.ofChange fnExactInverseModuloWrong)

/-- 'laws.FnExactRankMod': WHATEVER THE INPUT: true; the input reads as it did. -/
def fnExactRankModSpec : ChangeSpec := { name := "fnExactRankMod", fn := fun _ => fun
  | [d1, d2] => { results := [.lit (.bool true)], args := [d1, d2] }
  | _ => none }
def fnExactRankModRow : OpenClaim := { program := "ytncplikadacjnaa", sum := "2575221d26aacc87b92eed41ccf88eb62f95736ef4b88a4aa92922203fb40f44", func := "loop.example/g03411/laws.FnExactRankMod", spec := "fnExactRankMod", unfollowed := true, recurses := true, apart := false }
def FnExactRankModSaid : Prop := fnExactRankModRow.holds Try.pinned (OpenSpec.ofChange fnExactRankModSpec)

/-- ITS FALSE NEIGHBOUR: 'it returns false'. Refute it at one input. -/
def fnExactRankModWrong : ChangeSpec := { name := "fnExactRankMod", fn := fun _ => fun
  | [d1, d2] => { results := [.lit (.bool false)], args := [d1, d2] }
  | _ => none }
def FnExactRankModWrongFalsely : Prop := fnExactRankModRow.holds Try.pinned (OpenSpec.ofChange fnExactRankModWrong)

/-- 'laws.FnExactDeterminantMod': WHATEVER THE INPUT: true; the input reads as it did. -/
def fnExactDeterminantModSpec : ChangeSpec := { name := "fnExactDeterminantMod", fn := fun _ => fun
  | [d1, d2] => { results := [.lit (.bool true)], args := [d1, d2] }
  | _ => none }
def fnExactDeterminantModRow : OpenClaim := { program := "ytncplikadacjnaa", sum := "2575221d26aacc87b92eed41ccf88eb62f95736ef4b88a4aa92922203fb40f44", func := "loop.example/g03411/laws.FnExactDeterminantMod", spec := "fnExactDeterminantMod", unfollowed := true, recurses := true, apart := false }
def FnExactDeterminantModSaid : Prop := fnExactDeterminantModRow.holds Try.pinned (OpenSpec.ofChange fnExactDeterminantModSpec)

/-- ITS FALSE NEIGHBOUR: 'it returns false'. Refute it at one input. -/
def fnExactDeterminantModWrong : ChangeSpec := { name := "fnExactDeterminantMod", fn := fun _ => fun
  | [d1, d2] => { results := [.lit (.bool false)], args := [d1, d2] }
  | _ => none }
def FnExactDeterminantModWrongFalsely : Prop := fnExactDeterminantModRow.holds Try.pinned (OpenSpec.ofChange fnExactDeterminantModWrong)

/-- 'laws.FnExactInverseMod': WHATEVER THE INPUT: true; the input reads as it did. -/
def fnExactInverseModSpec : ChangeSpec := { name := "fnExactInverseMod", fn := fun _ => fun
  | [d1, d2] => { results := [.lit (.bool true)], args := [d1, d2] }
  | _ => none }
def fnExactInverseModRow : OpenClaim := { program := "ytncplikadacjnaa", sum := "2575221d26aacc87b92eed41ccf88eb62f95736ef4b88a4aa92922203fb40f44", func := "loop.example/g03411/laws.FnExactInverseMod", spec := "fnExactInverseMod", unfollowed := true, recurses := true, apart := false }
def FnExactInverseModSaid : Prop := fnExactInverseModRow.holds Try.pinned (OpenSpec.ofChange fnExactInverseModSpec)

/-- ITS FALSE NEIGHBOUR: 'it returns false'. Refute it at one input. -/
def fnExactInverseModWrong : ChangeSpec := { name := "fnExactInverseMod", fn := fun _ => fun
  | [d1, d2] => { results := [.lit (.bool false)], args := [d1, d2] }
  | _ => none }
def FnExactInverseModWrongFalsely : Prop := fnExactInverseModRow.holds Try.pinned (OpenSpec.ofChange fnExactInverseModWrong)

/-- 'laws.FnExactSolveMod': WHATEVER THE INPUT: true; the input reads as it did. -/
def fnExactSolveModSpec : ChangeSpec := { name := "fnExactSolveMod", fn := fun _ => fun
  | [d1, d2, d3] => { results := [.lit (.bool true)], args := [d1, d2, d3] }
  | _ => none }
def fnExactSolveModRow : OpenClaim := { program := "ytncplikadacjnaa", sum := "2575221d26aacc87b92eed41ccf88eb62f95736ef4b88a4aa92922203fb40f44", func := "loop.example/g03411/laws.FnExactSolveMod", spec := "fnExactSolveMod", unfollowed := true, recurses := true, apart := false }
def FnExactSolveModSaid : Prop := fnExactSolveModRow.holds Try.pinned (OpenSpec.ofChange fnExactSolveModSpec)

/-- ITS FALSE NEIGHBOUR: 'it returns false'. Refute it at one input. -/
def fnExactSolveModWrong : ChangeSpec := { name := "fnExactSolveMod", fn := fun _ => fun
  | [d1, d2, d3] => { results := [.lit (.bool false)], args := [d1, d2, d3] }
  | _ => none }
def FnExactSolveModWrongFalsely : Prop := fnExactSolveModRow.holds Try.pinned (OpenSpec.ofChange fnExactSolveModWrong)

/- THE SECOND FORM. 'bulk': how many values and letters a reading holds, each counted each time it is reached (what is shared counts as often as it is met; a slice's spare places count too). A statement '..UptoSaid' is the law's where the arguments, and the package variables that the reading takes, are together of bulk at most 1048576: NARROWER than '..Said'. Prove '..Said' where nothing that the law and all that it calls make is longer than what came in: it says more and counts as full. Else prove '..UptoSaid'. A law counts once. -/
mutual
def uptoBulk {H : Type} : DataW H → Nat
  | .lit (.string bytes) => bytes.length + 1
  | .lit _ => 1
  | .nil => 1
  | .ptr d => uptoBulk d + 1
  | .slice elems spare => uptoBulkAll elems + uptoBulkAll spare + 1
  | .agg parts => uptoBulkAll parts + 1
  | .iface _ d => uptoBulk d + 1
  | .map entries => uptoBulkEntries entries + 1
  | .held _ => 1
def uptoBulkAll {H : Type} : List (DataW H) → Nat
  | [] => 0
  | d :: r => uptoBulk d + uptoBulkAll r
def uptoBulkEntries {H : Type} : List (Lit × DataW H) → Nat
  | [] => 0
  | x :: r => uptoBulkEntry x + uptoBulkEntries r
def uptoBulkEntry {H : Type} : Lit × DataW H → Nat
  | (.string bytes, d) => bytes.length + uptoBulk d + 1
  | (_, d) => uptoBulk d + 1
 end
def uptoSmall : (H : Type) → List (DataW H) → Bool := fun _ ds => decide (uptoBulkAll ds ≤ 1048576)
def OpenSpec.upto (s : _root_.Go.ChangeSpec) : _root_.Go.OpenSpec := { _root_.Go.OpenSpec.ofChange s with cond := some uptoSmall }

/-- 'laws.FnImages', WHERE WHAT IT READS IS OF BULK AT MOST 1048576: true; the input reads as it did. -/
def fnImagesUptoRow : OpenClaim := { program := "ytncplikadacjnaa", sum := "2575221d26aacc87b92eed41ccf88eb62f95736ef4b88a4aa92922203fb40f44", func := "loop.example/g03411/laws.FnImages", spec := "fnImages", unfollowed := true, recurses := true, apart := false, narrowed := true }
def FnImagesUptoSaid : Prop := fnImagesUptoRow.holds Try.pinned (OpenSpec.upto fnImagesSpec)

/-- 'laws.FnInverseMod', WHERE WHAT IT READS IS OF BULK AT MOST 1048576: true; the input reads as it did. -/
def fnInverseModUptoRow : OpenClaim := { program := "ytncplikadacjnaa", sum := "2575221d26aacc87b92eed41ccf88eb62f95736ef4b88a4aa92922203fb40f44", func := "loop.example/g03411/laws.FnInverseMod", spec := "fnInverseMod", unfollowed := true, recurses := true, apart := false, narrowed := true }
def FnInverseModUptoSaid : Prop := fnInverseModUptoRow.holds Try.pinned (OpenSpec.upto fnInverseModSpec)

/-- 'laws.FnExactIsPrime', WHERE WHAT IT READS IS OF BULK AT MOST 1048576: true; the input reads as it did. -/
def fnExactIsPrimeUptoRow : OpenClaim := { program := "ytncplikadacjnaa", sum := "2575221d26aacc87b92eed41ccf88eb62f95736ef4b88a4aa92922203fb40f44", func := "loop.example/g03411/laws.FnExactIsPrime", spec := "fnExactIsPrime", unfollowed := true, recurses := true, apart := false, narrowed := true }
def FnExactIsPrimeUptoSaid : Prop := fnExactIsPrimeUptoRow.holds Try.pinned (OpenSpec.upto fnExactIsPrimeSpec)

/-- 'laws.FnExactReduceMod', WHERE WHAT IT READS IS OF BULK AT MOST 1048576: true; the input reads as it did. -/
def fnExactReduceModUptoRow : OpenClaim := { program := "ytncplikadacjnaa", sum := "2575221d26aacc87b92eed41ccf88eb62f95736ef4b88a4aa92922203fb40f44", func := "loop.example/g03411/laws.FnExactReduceMod", spec := "fnExactReduceMod", unfollowed := true, recurses := true, apart := false, narrowed := true }
def FnExactReduceModUptoSaid : Prop := fnExactReduceModUptoRow.holds Try.pinned (OpenSpec.upto fnExactReduceModSpec)

/-- 'laws.FnExactInverseModulo', WHERE WHAT IT READS IS OF BULK AT MOST 1048576: true; the input reads as it did. -/
def fnExactInverseModuloUptoRow : OpenClaim := { program := "ytncplikadacjnaa", sum := "2575221d26aacc87b92eed41ccf88eb62f95736ef4b88a4aa92922203fb40f44", func := "loop.example/g03411/laws.FnExactInverseModulo", spec := "fnExactInverseModulo", unfollowed := true, recurses := true, apart := false, narrowed := true }
def FnExactInverseModuloUptoSaid : Prop := fnExactInverseModuloUptoRow.holds Try.pinned (OpenSpec.upto fnExactInverseModuloSpec)

/-- 'laws.FnExactRankMod', WHERE WHAT IT READS IS OF BULK AT MOST 1048576: true; the input reads as it did. -/
def fnExactRankModUptoRow : OpenClaim := { program := "ytncplikadacjnaa", sum := "2575221d26aacc87b92eed41ccf88eb62f95736ef4b88a4aa92922203fb40f44", func := "loop.example/g03411/laws.FnExactRankMod", spec := "fnExactRankMod", unfollowed := true, recurses := true, apart := false, narrowed := true }
def FnExactRankModUptoSaid : Prop := fnExactRankModUptoRow.holds Try.pinned (OpenSpec.upto fnExactRankModSpec)

/-- 'laws.FnExactDeterminantMod', WHERE WHAT IT READS IS OF BULK AT MOST 1048576: true; the input reads as it did. -/
def fnExactDeterminantModUptoRow : OpenClaim := { program := "ytncplikadacjnaa", sum := "2575221d26aacc87b92eed41ccf88eb62f95736ef4b88a4aa92922203fb40f44", func := "loop.example/g03411/laws.FnExactDeterminantMod", spec := "fnExactDeterminantMod", unfollowed := true, recurses := true, apart := false, narrowed := true }
def FnExactDeterminantModUptoSaid : Prop := fnExactDeterminantModUptoRow.holds Try.pinned (OpenSpec.upto fnExactDeterminantModSpec)

/-- 'laws.FnExactInverseMod', WHERE WHAT IT READS IS OF BULK AT MOST 1048576: true; the input reads as it did. -/
def fnExactInverseModUptoRow : OpenClaim := { program := "ytncplikadacjnaa", sum := "2575221d26aacc87b92eed41ccf88eb62f95736ef4b88a4aa92922203fb40f44", func := "loop.example/g03411/laws.FnExactInverseMod", spec := "fnExactInverseMod", unfollowed := true, recurses := true, apart := false, narrowed := true }
def FnExactInverseModUptoSaid : Prop := fnExactInverseModUptoRow.holds Try.pinned (OpenSpec.upto fnExactInverseModSpec)

/-- 'laws.FnExactSolveMod', WHERE WHAT IT READS IS OF BULK AT MOST 1048576: true; the input reads as it did. -/
def fnExactSolveModUptoRow : OpenClaim := { program := "ytncplikadacjnaa", sum := "2575221d26aacc87b92eed41ccf88eb62f95736ef4b88a4aa92922203fb40f44", func := "loop.example/g03411/laws.FnExactSolveMod", spec := "fnExactSolveMod", unfollowed := true, recurses := true, apart := false, narrowed := true }
def FnExactSolveModUptoSaid : Prop := fnExactSolveModUptoRow.holds Try.pinned (OpenSpec.upto fnExactSolveModSpec)

end Rows
end Go.Proofs.Ytncplikadacjnaa
