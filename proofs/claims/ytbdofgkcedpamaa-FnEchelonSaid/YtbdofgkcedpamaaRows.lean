/-
  No cell of these rows narrows 'for every input' (looked for: loops, veiled, ifaces, maps, wideKeys, modest, calm, conditions, laid).
  DERIVED. THE GIVEN ROWS OF THIS SEAT. 9 by the template 'for every input the law returns true; each argument reads behind the call as it read before'; 0 by the template 'total and deterministic' (their statements: YtbdofgkcedpamaaTotals.lean).
  GIVEN WITH THE SEED: the statements are not yours to turn. If you find one false, say at which input.
  Laid BY PROGRAM, IN A SANDBOX (cutbox-rows.mjs): the forced cells as the released guide's own fill.sh prints them over the translation eb4117fd8a79c12a… (all of the seat's roots in one cut). By AI agents, Wed Nov 11 2026. No macro, syntax, notation, axiom, sorry.
-/
import Derived.Test.YtbdofgkcedpamaaChecked
import GoSem.Claim
import GoSem.ClaimJoined
import GoSem.ClaimMapViews
import Derived.JoinedTies
import Derived.KernelRfl
namespace Go.Proofs.Ytbdofgkcedpamaa
/- THE CELL 'sum', in the pinned program and in every row, IS THE sha256 OF THE DUMP (.gsa) THAT YtbdofgkcedpamaaProg.lean LOADS. Nothing in Lean hashes anything: it is a label: what it is worth is what the hold of that sum in a sandbox is worth. -/
noncomputable def Try.pinned : Pinned := { name := "ytbdofgkcedpamaa", sum := "eb4117fd8a79c12ae340254d1ace1eaac4d8d7e9a38fe73d356513052a251c9e", checked := Try.checked }
namespace Rows
def none {H : Type} : Left H := { results := [], args := [] }

/-- 'laws.FnExactEchelonOf': WHATEVER THE INPUT: true; the input reads as it did. -/
def fnExactEchelonOfSpec : ChangeSpec := { name := "fnExactEchelonOf", fn := fun _ => fun
  | [d] => { results := [.lit (.bool true)], args := [d] }
  | _ => none }
def fnExactEchelonOfRow : OpenClaim := { program := "ytbdofgkcedpamaa", sum := "eb4117fd8a79c12ae340254d1ace1eaac4d8d7e9a38fe73d356513052a251c9e", func := "loop.example/g03411/laws.FnExactEchelonOf", spec := "fnExactEchelonOf", unfollowed := true, recurses := true, apart := false }
def FnExactEchelonOfSaid : Prop := fnExactEchelonOfRow.holds Try.pinned (OpenSpec.ofChange fnExactEchelonOfSpec)

/-- ITS FALSE NEIGHBOUR: 'it returns false'. Refute it at one input. -/
def fnExactEchelonOfWrong : ChangeSpec := { name := "fnExactEchelonOf", fn := fun _ => fun
  | [d] => { results := [.lit (.bool false)], args := [d] }
  | _ => none }
def FnExactEchelonOfWrongFalsely : Prop := fnExactEchelonOfRow.holds Try.pinned (OpenSpec.ofChange fnExactEchelonOfWrong)

/-- 'laws.FnExactRankOf': WHATEVER THE INPUT: true; the input reads as it did. -/
def fnExactRankOfSpec : ChangeSpec := { name := "fnExactRankOf", fn := fun _ => fun
  | [d] => { results := [.lit (.bool true)], args := [d] }
  | _ => none }
def fnExactRankOfRow : OpenClaim := { program := "ytbdofgkcedpamaa", sum := "eb4117fd8a79c12ae340254d1ace1eaac4d8d7e9a38fe73d356513052a251c9e", func := "loop.example/g03411/laws.FnExactRankOf", spec := "fnExactRankOf", unfollowed := true, recurses := true, apart := false }
def FnExactRankOfSaid : Prop := fnExactRankOfRow.holds Try.pinned (OpenSpec.ofChange fnExactRankOfSpec)

/-- ITS FALSE NEIGHBOUR: 'it returns false'. Refute it at one input. -/
def fnExactRankOfWrong : ChangeSpec := { name := "fnExactRankOf", fn := fun _ => fun
  | [d] => { results := [.lit (.bool false)], args := [d] }
  | _ => none }
def FnExactRankOfWrongFalsely : Prop := fnExactRankOfRow.holds Try.pinned (OpenSpec.ofChange fnExactRankOfWrong)

/-- 'laws.FnExactIsEchelon': WHATEVER THE INPUT: true; the input reads as it did. -/
def fnExactIsEchelonSpec : ChangeSpec := { name := "fnExactIsEchelon", fn := fun _ => fun
  | [d] => { results := [.lit (.bool true)], args := [d] }
  | _ => none }
def fnExactIsEchelonRow : OpenClaim := { program := "ytbdofgkcedpamaa", sum := "eb4117fd8a79c12ae340254d1ace1eaac4d8d7e9a38fe73d356513052a251c9e", func := "loop.example/g03411/laws.FnExactIsEchelon", spec := "fnExactIsEchelon", unfollowed := true, recurses := true, apart := false }
def FnExactIsEchelonSaid : Prop := fnExactIsEchelonRow.holds Try.pinned (OpenSpec.ofChange fnExactIsEchelonSpec)

/-- ITS FALSE NEIGHBOUR: 'it returns false'. Refute it at one input. -/
def fnExactIsEchelonWrong : ChangeSpec := { name := "fnExactIsEchelon", fn := fun _ => fun
  | [d] => { results := [.lit (.bool false)], args := [d] }
  | _ => none }
def FnExactIsEchelonWrongFalsely : Prop := fnExactIsEchelonRow.holds Try.pinned (OpenSpec.ofChange fnExactIsEchelonWrong)

/-- 'laws.FnExactSameSpace': WHATEVER THE INPUT: true; the input reads as it did. -/
def fnExactSameSpaceSpec : ChangeSpec := { name := "fnExactSameSpace", fn := fun _ => fun
  | [d1, d2] => { results := [.lit (.bool true)], args := [d1, d2] }
  | _ => none }
def fnExactSameSpaceRow : OpenClaim := { program := "ytbdofgkcedpamaa", sum := "eb4117fd8a79c12ae340254d1ace1eaac4d8d7e9a38fe73d356513052a251c9e", func := "loop.example/g03411/laws.FnExactSameSpace", spec := "fnExactSameSpace", unfollowed := true, recurses := true, apart := false }
def FnExactSameSpaceSaid : Prop := fnExactSameSpaceRow.holds Try.pinned (OpenSpec.ofChange fnExactSameSpaceSpec)

/-- ITS FALSE NEIGHBOUR: 'it returns false'. Refute it at one input. -/
def fnExactSameSpaceWrong : ChangeSpec := { name := "fnExactSameSpace", fn := fun _ => fun
  | [d1, d2] => { results := [.lit (.bool false)], args := [d1, d2] }
  | _ => none }
def FnExactSameSpaceWrongFalsely : Prop := fnExactSameSpaceRow.holds Try.pinned (OpenSpec.ofChange fnExactSameSpaceWrong)

/-- 'laws.FnEchelon': WHATEVER THE INPUT: true; the input reads as it did. -/
def fnEchelonSpec : ChangeSpec := { name := "fnEchelon", fn := fun _ => fun
  | [d] => { results := [.lit (.bool true)], args := [d] }
  | _ => none }
def fnEchelonRow : OpenClaim := { program := "ytbdofgkcedpamaa", sum := "eb4117fd8a79c12ae340254d1ace1eaac4d8d7e9a38fe73d356513052a251c9e", func := "loop.example/g03411/laws.FnEchelon", spec := "fnEchelon", unfollowed := true, recurses := true, apart := false }
def FnEchelonSaid : Prop := fnEchelonRow.holds Try.pinned (OpenSpec.ofChange fnEchelonSpec)

/-- ITS FALSE NEIGHBOUR: 'it returns false'. Refute it at one input. -/
def fnEchelonWrong : ChangeSpec := { name := "fnEchelon", fn := fun _ => fun
  | [d] => { results := [.lit (.bool false)], args := [d] }
  | _ => none }
def FnEchelonWrongFalsely : Prop := fnEchelonRow.holds Try.pinned (OpenSpec.ofChange fnEchelonWrong)

/-- 'laws.FnSpaces': WHATEVER THE INPUT: true; the input reads as it did. -/
def fnSpacesSpec : ChangeSpec := { name := "fnSpaces", fn := fun _ => fun
  | [d] => { results := [.lit (.bool true)], args := [d] }
  | _ => none }
def fnSpacesRow : OpenClaim := { program := "ytbdofgkcedpamaa", sum := "eb4117fd8a79c12ae340254d1ace1eaac4d8d7e9a38fe73d356513052a251c9e", func := "loop.example/g03411/laws.FnSpaces", spec := "fnSpaces", unfollowed := true, recurses := true, apart := false }
def FnSpacesSaid : Prop := fnSpacesRow.holds Try.pinned (OpenSpec.ofChange fnSpacesSpec)

/-- ITS FALSE NEIGHBOUR: 'it returns false'. Refute it at one input. -/
def fnSpacesWrong : ChangeSpec := { name := "fnSpaces", fn := fun _ => fun
  | [d] => { results := [.lit (.bool false)], args := [d] }
  | _ => none }
def FnSpacesWrongFalsely : Prop := fnSpacesRow.holds Try.pinned (OpenSpec.ofChange fnSpacesWrong)

/-- 'laws.FnExactRowOf': WHATEVER THE INPUT: true; the input reads as it did. -/
def fnExactRowOfSpec : ChangeSpec := { name := "fnExactRowOf", fn := fun _ => fun
  | [d1, d2] => { results := [.lit (.bool true)], args := [d1, d2] }
  | _ => none }
def fnExactRowOfRow : OpenClaim := { program := "ytbdofgkcedpamaa", sum := "eb4117fd8a79c12ae340254d1ace1eaac4d8d7e9a38fe73d356513052a251c9e", func := "loop.example/g03411/laws.FnExactRowOf", spec := "fnExactRowOf", unfollowed := true, recurses := true, apart := false }
def FnExactRowOfSaid : Prop := fnExactRowOfRow.holds Try.pinned (OpenSpec.ofChange fnExactRowOfSpec)

/-- ITS FALSE NEIGHBOUR: 'it returns false'. Refute it at one input. -/
def fnExactRowOfWrong : ChangeSpec := { name := "fnExactRowOf", fn := fun _ => fun
  | [d1, d2] => { results := [.lit (.bool false)], args := [d1, d2] }
  | _ => none }
def FnExactRowOfWrongFalsely : Prop := fnExactRowOfRow.holds Try.pinned (OpenSpec.ofChange fnExactRowOfWrong)

/-- 'laws.FnExactDeterminantBySteps': WHATEVER THE INPUT: true; the input reads as it did. -/
def fnExactDeterminantByStepsSpec : ChangeSpec := { name := "fnExactDeterminantBySteps", fn := fun _ => fun
  | [d] => { results := [.lit (.bool true)], args := [d] }
  | _ => none }
def fnExactDeterminantByStepsRow : OpenClaim := { program := "ytbdofgkcedpamaa", sum := "eb4117fd8a79c12ae340254d1ace1eaac4d8d7e9a38fe73d356513052a251c9e", func := "loop.example/g03411/laws.FnExactDeterminantBySteps", spec := "fnExactDeterminantBySteps", unfollowed := true, recurses := true, apart := false }
def FnExactDeterminantByStepsSaid : Prop := fnExactDeterminantByStepsRow.holds Try.pinned (OpenSpec.ofChange fnExactDeterminantByStepsSpec)

/-- ITS FALSE NEIGHBOUR: 'it returns false'. Refute it at one input. -/
def fnExactDeterminantByStepsWrong : ChangeSpec := { name := "fnExactDeterminantBySteps", fn := fun _ => fun
  | [d] => { results := [.lit (.bool false)], args := [d] }
  | _ => none }
def FnExactDeterminantByStepsWrongFalsely : Prop := fnExactDeterminantByStepsRow.holds Try.pinned (OpenSpec.ofChange fnExactDeterminantByStepsWrong)

/-- 'laws.FnDeterminants': WHATEVER THE INPUT: true; the input reads as it did. -/
def fnDeterminantsSpec : ChangeSpec := { name := "fnDeterminants", fn := fun _ => fun
  | [d] => { results := [.lit (.bool true)], args := [d] }
  | _ => none }
def fnDeterminantsRow : OpenClaim := { program := "ytbdofgkcedpamaa", sum := "eb4117fd8a79c12ae340254d1ace1eaac4d8d7e9a38fe73d356513052a251c9e", func := "loop.example/g03411/laws.FnDeterminants", spec := "fnDeterminants", unfollowed := true, recurses := true, apart := false }
def FnDeterminantsSaid : Prop := fnDeterminantsRow.holds Try.pinned (OpenSpec.ofChange fnDeterminantsSpec)

/-- ITS FALSE NEIGHBOUR: 'it returns false'. Refute it at one input. -/
def fnDeterminantsWrong : ChangeSpec := { name := "fnDeterminants", fn := fun _ => fun
  | [d] => { results := [.lit (.bool false)], args := [d] }
  | _ => none }
def FnDeterminantsWrongFalsely : Prop := fnDeterminantsRow.holds Try.pinned (OpenSpec.ofChange fnDeterminantsWrong)

/- THE SECOND FORM. 'bulk': how many values and letters a reading holds, each counted each time it is reached (what is shared counts as often as it is met; a slice's spare places count too). A statement '..UptoSaid' is the law's where the arguments, and the package variables that the reading takes, are together of bulk at most 1048576: NARROWER than '..Said'. Prove '..Said' where nothing that the law and all that it calls make is longer than what came in: it says more and counts as full. Else prove '..UptoSaid'. A law counts once. -/
mutual
def uptoBulk {H : Type} : DataW H → Nat
  | .lit (.string bytes) => bytes.length + 1
  | .lit _ => 1
  | .nil => 1
  | .ptr d => uptoBulk d + 1
  | .slice elems spare => uptoBulkAll elems + uptoBulkAll spare + 1
  | .agg parts => uptoBulkAll parts + 1
  | .iface _ d => uptoBulk d + 1
  | .map entries => uptoBulkEntries entries + 1
  | .held _ => 1
def uptoBulkAll {H : Type} : List (DataW H) → Nat
  | [] => 0
  | d :: r => uptoBulk d + uptoBulkAll r
def uptoBulkEntries {H : Type} : List (Lit × DataW H) → Nat
  | [] => 0
  | x :: r => uptoBulkEntry x + uptoBulkEntries r
def uptoBulkEntry {H : Type} : Lit × DataW H → Nat
  | (.string bytes, d) => bytes.length + uptoBulk d + 1
  | (_, d) => uptoBulk d + 1
 end
def uptoSmall : (H : Type) → List (DataW H) → Bool := fun _ ds => decide (uptoBulkAll ds ≤ 1048576)
def OpenSpec.upto (s : _root_.Go.ChangeSpec) : _root_.Go.OpenSpec := { _root_.Go.OpenSpec.ofChange s with cond := some uptoSmall }

/-- 'laws.FnExactEchelonOf', WHERE WHAT IT READS IS OF BULK AT MOST 1048576: true; the input reads as it did. -/
def fnExactEchelonOfUptoRow : OpenClaim := { program := "ytbdofgkcedpamaa", sum := "eb4117fd8a79c12ae340254d1ace1eaac4d8d7e9a38fe73d356513052a251c9e", func := "loop.example/g03411/laws.FnExactEchelonOf", spec := "fnExactEchelonOf", unfollowed := true, recurses := true, apart := false, narrowed := true }
def FnExactEchelonOfUptoSaid : Prop := fnExactEchelonOfUptoRow.holds Try.pinned (OpenSpec.upto fnExactEchelonOfSpec)

/-- 'laws.FnExactRankOf', WHERE WHAT IT READS IS OF BULK AT MOST 1048576: true; the input reads as it did. -/
def fnExactRankOfUptoRow : OpenClaim := { program := "ytbdofgkcedpamaa", sum := "eb4117fd8a79c12ae340254d1ace1eaac4d8d7e9a38fe73d356513052a251c9e", func := "loop.example/g03411/laws.FnExactRankOf", spec := "fnExactRankOf", unfollowed := true, recurses := true, apart := false, narrowed := true }
def FnExactRankOfUptoSaid : Prop := fnExactRankOfUptoRow.holds Try.pinned (OpenSpec.upto fnExactRankOfSpec)

/-- 'laws.FnExactIsEchelon', WHERE WHAT IT READS IS OF BULK AT MOST 1048576: true; the input reads as it did. -/
def fnExactIsEchelonUptoRow : OpenClaim := { program := "ytbdofgkcedpamaa", sum := "eb4117fd8a79c12ae340254d1ace1eaac4d8d7e9a38fe73d356513052a251c9e", func := "loop.example/g03411/laws.FnExactIsEchelon", spec := "fnExactIsEchelon", unfollowed := true, recurses := true, apart := false, narrowed := true }
def FnExactIsEchelonUptoSaid : Prop := fnExactIsEchelonUptoRow.holds Try.pinned (OpenSpec.upto fnExactIsEchelonSpec)

/-- 'laws.FnExactSameSpace', WHERE WHAT IT READS IS OF BULK AT MOST 1048576: true; the input reads as it did. -/
def fnExactSameSpaceUptoRow : OpenClaim := { program := "ytbdofgkcedpamaa", sum := "eb4117fd8a79c12ae340254d1ace1eaac4d8d7e9a38fe73d356513052a251c9e", func := "loop.example/g03411/laws.FnExactSameSpace", spec := "fnExactSameSpace", unfollowed := true, recurses := true, apart := false, narrowed := true }
def FnExactSameSpaceUptoSaid : Prop := fnExactSameSpaceUptoRow.holds Try.pinned (OpenSpec.upto fnExactSameSpaceSpec)

/-- 'laws.FnEchelon', WHERE WHAT IT READS IS OF BULK AT MOST 1048576: true; the input reads as it did. -/
def fnEchelonUptoRow : OpenClaim := { program := "ytbdofgkcedpamaa", sum := "eb4117fd8a79c12ae340254d1ace1eaac4d8d7e9a38fe73d356513052a251c9e", func := "loop.example/g03411/laws.FnEchelon", spec := "fnEchelon", unfollowed := true, recurses := true, apart := false, narrowed := true }
def FnEchelonUptoSaid : Prop := fnEchelonUptoRow.holds Try.pinned (OpenSpec.upto fnEchelonSpec)

/-- 'laws.FnSpaces', WHERE WHAT IT READS IS OF BULK AT MOST 1048576: true; the input reads as it did. -/
def fnSpacesUptoRow : OpenClaim := { program := "ytbdofgkcedpamaa", sum := "eb4117fd8a79c12ae340254d1ace1eaac4d8d7e9a38fe73d356513052a251c9e", func := "loop.example/g03411/laws.FnSpaces", spec := "fnSpaces", unfollowed := true, recurses := true, apart := false, narrowed := true }
def FnSpacesUptoSaid : Prop := fnSpacesUptoRow.holds Try.pinned (OpenSpec.upto fnSpacesSpec)

/-- 'laws.FnExactRowOf', WHERE WHAT IT READS IS OF BULK AT MOST 1048576: true; the input reads as it did. -/
def fnExactRowOfUptoRow : OpenClaim := { program := "ytbdofgkcedpamaa", sum := "eb4117fd8a79c12ae340254d1ace1eaac4d8d7e9a38fe73d356513052a251c9e", func := "loop.example/g03411/laws.FnExactRowOf", spec := "fnExactRowOf", unfollowed := true, recurses := true, apart := false, narrowed := true }
def FnExactRowOfUptoSaid : Prop := fnExactRowOfUptoRow.holds Try.pinned (OpenSpec.upto fnExactRowOfSpec)

/-- 'laws.FnExactDeterminantBySteps', WHERE WHAT IT READS IS OF BULK AT MOST 1048576: true; the input reads as it did. -/
def fnExactDeterminantByStepsUptoRow : OpenClaim := { program := "ytbdofgkcedpamaa", sum := "eb4117fd8a79c12ae340254d1ace1eaac4d8d7e9a38fe73d356513052a251c9e", func := "loop.example/g03411/laws.FnExactDeterminantBySteps", spec := "fnExactDeterminantBySteps", unfollowed := true, recurses := true, apart := false, narrowed := true }
def FnExactDeterminantByStepsUptoSaid : Prop := fnExactDeterminantByStepsUptoRow.holds Try.pinned (OpenSpec.upto fnExactDeterminantByStepsSpec)

/-- 'laws.FnDeterminants', WHERE WHAT IT READS IS OF BULK AT MOST 1048576: true; the input reads as it did. -/
def fnDeterminantsUptoRow : OpenClaim := { program := "ytbdofgkcedpamaa", sum := "eb4117fd8a79c12ae340254d1ace1eaac4d8d7e9a38fe73d356513052a251c9e", func := "loop.example/g03411/laws.FnDeterminants", spec := "fnDeterminants", unfollowed := true, recurses := true, apart := false, narrowed := true }
def FnDeterminantsUptoSaid : Prop := fnDeterminantsUptoRow.holds Try.pinned (OpenSpec.upto fnDeterminantsSpec)

end Rows
end Go.Proofs.Ytbdofgkcedpamaa
