/-
  No cell of these rows narrows 'for every input' (looked for: loops, veiled, ifaces, maps, wideKeys, modest, calm, conditions, laid).
  DERIVED. THE GIVEN ROWS OF THIS SEAT. 5 by the template 'for every input the law returns true; each argument reads behind the call as it read before'; 0 by the template 'total and deterministic' (their statements: YtcapddcmnjeloaaTotals.lean).
  GIVEN WITH THE SEED: the statements are not yours to turn. If you find one false, say at which input.
  Laid BY PROGRAM, IN A SANDBOX (cutbox-rows.mjs): the forced cells as the released guide's own fill.sh prints them over the translation b9a77e16d564c677… (all of the seat's roots in one cut). By AI agents, Wed Nov 11 2026. No macro, syntax, notation, axiom, sorry.
-/
import Derived.Test.YtcapddcmnjeloaaChecked
import GoSem.Claim
import GoSem.ClaimJoined
import GoSem.ClaimMapViews
import Derived.JoinedTies
import Derived.KernelRfl
namespace Go.Proofs.Ytcapddcmnjeloaa
/- THE CELL 'sum', in the pinned program and in every row, IS THE sha256 OF THE DUMP (.gsa) THAT YtcapddcmnjeloaaProg.lean LOADS. Nothing in Lean hashes anything: it is a label: what it is worth is what the hold of that sum in a sandbox is worth. -/
noncomputable def Try.pinned : Pinned := { name := "ytcapddcmnjeloaa", sum := "b9a77e16d564c67763469427b6cb912b218dbaf2d63111a372017bda9dc7dc43", checked := Try.checked }
namespace Rows
def none {H : Type} : Left H := { results := [], args := [] }

/-- 'laws.FnInverseMod': WHATEVER THE INPUT: true; the input reads as it did. -/
def fnInverseModSpec : ChangeSpec := { name := "fnInverseMod", fn := fun _ => fun
  | [d] => { results := [.lit (.bool true)], args := [d] }
  | _ => none }
def fnInverseModRow : OpenClaim := { program := "ytcapddcmnjeloaa", sum := "b9a77e16d564c67763469427b6cb912b218dbaf2d63111a372017bda9dc7dc43", func := "loop.example/g03411/laws.FnInverseMod", spec := "fnInverseMod", unfollowed := true, recurses := true, apart := false }
def FnInverseModSaid : Prop := fnInverseModRow.holds Try.pinned (OpenSpec.ofChange fnInverseModSpec)

/-- ITS FALSE NEIGHBOUR: 'it returns false'. Refute it at one input. -/
def fnInverseModWrong : ChangeSpec := { name := "fnInverseMod", fn := fun _ => fun
  | [d] => { results := [.lit (.bool false)], args := [d] }
  | _ => none }
def FnInverseModWrongFalsely : Prop := fnInverseModRow.holds Try.pinned (OpenSpec.ofChange fnInverseModWrong)

/-- 'laws.FnExactSolveMod': WHATEVER THE INPUT: true; the input reads as it did. -/
def fnExactSolveModSpec : ChangeSpec := { name := "fnExactSolveMod", fn := fun _ => fun
  | [d1, d2, d3] => { results := [.lit (.bool true)], args := [d1, d2, d3] }
  | _ => none }
def fnExactSolveModRow : OpenClaim := { program := "ytcapddcmnjeloaa", sum := "b9a77e16d564c67763469427b6cb912b218dbaf2d63111a372017bda9dc7dc43", func := "loop.example/g03411/laws.FnExactSolveMod", spec := "fnExactSolveMod", unfollowed := true, recurses := true, apart := false }
def FnExactSolveModSaid : Prop := fnExactSolveModRow.holds Try.pinned (OpenSpec.ofChange fnExactSolveModSpec)

/-- ITS FALSE NEIGHBOUR: 'it returns false'. Refute it at one input. -/
def fnExactSolveModWrong : ChangeSpec := { name := "fnExactSolveMod", fn := fun _ => fun
  | [d1, d2, d3] => { results := [.lit (.bool false)], args := [d1, d2, d3] }
  | _ => none }
def FnExactSolveModWrongFalsely : Prop := fnExactSolveModRow.holds Try.pinned (OpenSpec.ofChange fnExactSolveModWrong)

/-- 'laws.FnExactIsRational': WHATEVER THE INPUT: true; the input reads as it did. -/
def fnExactIsRationalSpec : ChangeSpec := { name := "fnExactIsRational", fn := fun _ => fun
  | [d1, d2, d3] => { results := [.lit (.bool true)], args := [d1, d2, d3] }
  | _ => none }
def fnExactIsRationalRow : OpenClaim := { program := "ytcapddcmnjeloaa", sum := "b9a77e16d564c67763469427b6cb912b218dbaf2d63111a372017bda9dc7dc43", func := "loop.example/g03411/laws.FnExactIsRational", spec := "fnExactIsRational", unfollowed := true, recurses := true, apart := false }
def FnExactIsRationalSaid : Prop := fnExactIsRationalRow.holds Try.pinned (OpenSpec.ofChange fnExactIsRationalSpec)

/-- ITS FALSE NEIGHBOUR: 'it returns false'. Refute it at one input. -/
def fnExactIsRationalWrong : ChangeSpec := { name := "fnExactIsRational", fn := fun _ => fun
  | [d1, d2, d3] => { results := [.lit (.bool false)], args := [d1, d2, d3] }
  | _ => none }
def FnExactIsRationalWrongFalsely : Prop := fnExactIsRationalRow.holds Try.pinned (OpenSpec.ofChange fnExactIsRationalWrong)

/-- 'laws.FnExactSolveByDeterminants': WHATEVER THE INPUT: true; the input reads as it did. -/
def fnExactSolveByDeterminantsSpec : ChangeSpec := { name := "fnExactSolveByDeterminants", fn := fun _ => fun
  | [d1, d2] => { results := [.lit (.bool true)], args := [d1, d2] }
  | _ => none }
def fnExactSolveByDeterminantsRow : OpenClaim := { program := "ytcapddcmnjeloaa", sum := "b9a77e16d564c67763469427b6cb912b218dbaf2d63111a372017bda9dc7dc43", func := "loop.example/g03411/laws.FnExactSolveByDeterminants", spec := "fnExactSolveByDeterminants", unfollowed := true, recurses := true, apart := false }
def FnExactSolveByDeterminantsSaid : Prop := fnExactSolveByDeterminantsRow.holds Try.pinned (OpenSpec.ofChange fnExactSolveByDeterminantsSpec)

/-- ITS FALSE NEIGHBOUR: 'it returns false'. Refute it at one input. -/
def fnExactSolveByDeterminantsWrong : ChangeSpec := { name := "fnExactSolveByDeterminants", fn := fun _ => fun
  | [d1, d2] => { results := [.lit (.bool false)], args := [d1, d2] }
  | _ => none }
def FnExactSolveByDeterminantsWrongFalsely : Prop := fnExactSolveByDeterminantsRow.holds Try.pinned (OpenSpec.ofChange fnExactSolveByDeterminantsWrong)

/-- 'laws.FnExactSolveByEchelon': WHATEVER THE INPUT: true; the input reads as it did. -/
def fnExactSolveByEchelonSpec : ChangeSpec := { name := "fnExactSolveByEchelon", fn := fun _ => fun
  | [d1, d2] => { results := [.lit (.bool true)], args := [d1, d2] }
  | _ => none }
def fnExactSolveByEchelonRow : OpenClaim := { program := "ytcapddcmnjeloaa", sum := "b9a77e16d564c67763469427b6cb912b218dbaf2d63111a372017bda9dc7dc43", func := "loop.example/g03411/laws.FnExactSolveByEchelon", spec := "fnExactSolveByEchelon", unfollowed := true, recurses := true, apart := false }
def FnExactSolveByEchelonSaid : Prop := fnExactSolveByEchelonRow.holds Try.pinned (OpenSpec.ofChange fnExactSolveByEchelonSpec)

/-- ITS FALSE NEIGHBOUR: 'it returns false'. Refute it at one input. -/
def fnExactSolveByEchelonWrong : ChangeSpec := { name := "fnExactSolveByEchelon", fn := fun _ => fun
  | [d1, d2] => { results := [.lit (.bool false)], args := [d1, d2] }
  | _ => none }
def FnExactSolveByEchelonWrongFalsely : Prop := fnExactSolveByEchelonRow.holds Try.pinned (OpenSpec.ofChange fnExactSolveByEchelonWrong)

/- THE SECOND FORM. 'bulk': how many values and letters a reading holds, each counted each time it is reached (what is shared counts as often as it is met; a slice's spare places count too). A statement '..UptoSaid' is the law's where the arguments, and the package variables that the reading takes, are together of bulk at most 1048576: NARROWER than '..Said'. Prove '..Said' where nothing that the law and all that it calls make is longer than what came in: it says more and counts as full. Else prove '..UptoSaid'. A law counts once. -/
mutual
def uptoBulk {H : Type} : DataW H → Nat
  | .lit (.string bytes) => bytes.length + 1
  | .lit _ => 1
  | .nil => 1
  | .ptr d => uptoBulk d + 1
  | .slice elems spare => uptoBulkAll elems + uptoBulkAll spare + 1
  | .agg parts => uptoBulkAll parts + 1
  | .iface _ d => uptoBulk d + 1
  | .map entries => uptoBulkEntries entries + 1
  | .held _ => 1
def uptoBulkAll {H : Type} : List (DataW H) → Nat
  | [] => 0
  | d :: r => uptoBulk d + uptoBulkAll r
def uptoBulkEntries {H : Type} : List (Lit × DataW H) → Nat
  | [] => 0
  | x :: r => uptoBulkEntry x + uptoBulkEntries r
def uptoBulkEntry {H : Type} : Lit × DataW H → Nat
  | (.string bytes, d) => bytes.length + uptoBulk d + 1
  | (_, d) => uptoBulk d + 1
 end
def uptoSmall : (H : Type) → List (DataW H) → Bool := fun _ ds => decide (uptoBulkAll ds ≤ 1048576)
def OpenSpec.upto (s : _root_.Go.ChangeSpec) : _root_.Go.OpenSpec := { _root_.Go.OpenSpec.ofChange s with cond := some uptoSmall }

/-- 'laws.FnInverseMod', WHERE WHAT IT READS IS OF BULK AT MOST 1048576: true; the input reads as it did. -/
def fnInverseModUptoRow : OpenClaim := { program := "ytcapddcmnjeloaa", sum := "b9a77e16d564c67763469427b6cb912b218dbaf2d63111a372017bda9dc7dc43", func := "loop.example/g03411/laws.FnInverseMod", spec := "fnInverseMod", unfollowed := true, recurses := true, apart := false, narrowed := true }
def FnInverseModUptoSaid : Prop := fnInverseModUptoRow.holds Try.pinned (OpenSpec.upto fnInverseModSpec)

/-- 'laws.FnExactSolveMod', WHERE WHAT IT READS IS OF BULK AT MOST 1048576: true; the input reads as it did. -/
def fnExactSolveModUptoRow : OpenClaim := { program := "ytcapddcmnjeloaa", sum := "b9a77e16d564c67763469427b6cb912b218dbaf2d63111a372017bda9dc7dc43", func := "loop.example/g03411/laws.FnExactSolveMod", spec := "fnExactSolveMod", unfollowed := true, recurses := true, apart := false, narrowed := true }
def FnExactSolveModUptoSaid : Prop := fnExactSolveModUptoRow.holds Try.pinned (OpenSpec.upto fnExactSolveModSpec)

/-- 'laws.FnExactIsRational', WHERE WHAT IT READS IS OF BULK AT MOST 1048576: true; the input reads as it did. -/
def fnExactIsRationalUptoRow : OpenClaim := { program := "ytcapddcmnjeloaa", sum := "b9a77e16d564c67763469427b6cb912b218dbaf2d63111a372017bda9dc7dc43", func := "loop.example/g03411/laws.FnExactIsRational", spec := "fnExactIsRational", unfollowed := true, recurses := true, apart := false, narrowed := true }
def FnExactIsRationalUptoSaid : Prop := fnExactIsRationalUptoRow.holds Try.pinned (OpenSpec.upto fnExactIsRationalSpec)

/-- 'laws.FnExactSolveByDeterminants', WHERE WHAT IT READS IS OF BULK AT MOST 1048576: true; the input reads as it did. -/
def fnExactSolveByDeterminantsUptoRow : OpenClaim := { program := "ytcapddcmnjeloaa", sum := "b9a77e16d564c67763469427b6cb912b218dbaf2d63111a372017bda9dc7dc43", func := "loop.example/g03411/laws.FnExactSolveByDeterminants", spec := "fnExactSolveByDeterminants", unfollowed := true, recurses := true, apart := false, narrowed := true }
def FnExactSolveByDeterminantsUptoSaid : Prop := fnExactSolveByDeterminantsUptoRow.holds Try.pinned (OpenSpec.upto fnExactSolveByDeterminantsSpec)

/-- 'laws.FnExactSolveByEchelon', WHERE WHAT IT READS IS OF BULK AT MOST 1048576: true; the input reads as it did. -/
def fnExactSolveByEchelonUptoRow : OpenClaim := { program := "ytcapddcmnjeloaa", sum := "b9a77e16d564c67763469427b6cb912b218dbaf2d63111a372017bda9dc7dc43", func := "loop.example/g03411/laws.FnExactSolveByEchelon", spec := "fnExactSolveByEchelon", unfollowed := true, recurses := true, apart := false, narrowed := true }
def FnExactSolveByEchelonUptoSaid : Prop := fnExactSolveByEchelonUptoRow.holds Try.pinned (OpenSpec.upto fnExactSolveByEchelonSpec)

end Rows
end Go.Proofs.Ytcapddcmnjeloaa
