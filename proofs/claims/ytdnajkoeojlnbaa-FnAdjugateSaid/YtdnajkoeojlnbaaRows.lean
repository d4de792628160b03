/-
  No cell of these rows narrows 'for every input' (looked for: loops, veiled, ifaces, maps, wideKeys, modest, calm, conditions, laid).
  DERIVED. THE GIVEN ROWS OF THIS SEAT. 12 by the template 'for every input the law returns true; each argument reads behind the call as it read before'; 0 by the template 'total and deterministic' (their statements: YtdnajkoeojlnbaaTotals.lean).
  GIVEN WITH THE SEED: the statements are not yours to turn. If you find one false, say at which input.
  Laid BY PROGRAM, IN A SANDBOX (cutbox-rows.mjs): the forced cells as the released guide's own fill.sh prints them over the translation 661f6bb649d88dcd… (all of the seat's roots in one cut). By AI agents, Wed Nov 11 2026. No macro, syntax, notation, axiom, sorry.
-/
import Derived.Test.YtdnajkoeojlnbaaChecked
import GoSem.Claim
import GoSem.ClaimJoined
import GoSem.ClaimMapViews
import Derived.JoinedTies
import Derived.KernelRfl
namespace Go.Proofs.Ytdnajkoeojlnbaa
/- THE CELL 'sum', in the pinned program and in every row, IS THE sha256 OF THE DUMP (.gsa) THAT YtdnajkoeojlnbaaProg.lean LOADS. Nothing in Lean hashes anything: it is a label: what it is worth is what the hold of that sum in a sandbox is worth. -/
noncomputable def Try.pinned : Pinned := { name := "ytdnajkoeojlnbaa", sum := "661f6bb649d88dcd34448233c8e4d07e15c4cf2647ed6f7148ca79ff469dbe1f", checked := Try.checked }
namespace Rows
def none {H : Type} : Left H := { results := [], args := [] }

/-- 'laws.FnExactIsSquare': WHATEVER THE INPUT: true; the input reads as it did. -/
def fnExactIsSquareSpec : ChangeSpec := { name := "fnExactIsSquare", fn := fun _ => fun
  | [d] => { results := [.lit (.bool true)], args := [d] }
  | _ => none }
def fnExactIsSquareRow : OpenClaim := { program := "ytdnajkoeojlnbaa", sum := "661f6bb649d88dcd34448233c8e4d07e15c4cf2647ed6f7148ca79ff469dbe1f", func := "loop.example/g03411/laws.FnExactIsSquare", spec := "fnExactIsSquare", unfollowed := true, recurses := true, apart := false }
def FnExactIsSquareSaid : Prop := fnExactIsSquareRow.holds Try.pinned (OpenSpec.ofChange fnExactIsSquareSpec)

/-- ITS FALSE NEIGHBOUR: 'it returns false'. Refute it at one input. -/
def fnExactIsSquareWrong : ChangeSpec := { name := "fnExactIsSquare", fn := fun _ => fun
  | [d] => { results := [.lit (.bool false)], args := [d] }
  | _ => none }
def FnExactIsSquareWrongFalsely : Prop := fnExactIsSquareRow.holds Try.pinned (OpenSpec.ofChange fnExactIsSquareWrong)

/-- 'laws.FnExactWithoutCross': WHATEVER THE INPUT: true; the input reads as it did. -/
def fnExactWithoutCrossSpec : ChangeSpec := { name := "fnExactWithoutCross", fn := fun _ => fun
  | [d1, d2, d3] => { results := [.lit (.bool true)], args := [d1, d2, d3] }
  | _ => none }
def fnExactWithoutCrossRow : OpenClaim := { program := "ytdnajkoeojlnbaa", sum := "661f6bb649d88dcd34448233c8e4d07e15c4cf2647ed6f7148ca79ff469dbe1f", func := "loop.example/g03411/laws.FnExactWithoutCross", spec := "fnExactWithoutCross", unfollowed := true, recurses := true, apart := false }
def FnExactWithoutCrossSaid : Prop := fnExactWithoutCrossRow.holds Try.pinned (OpenSpec.ofChange fnExactWithoutCrossSpec)

/-- ITS FALSE NEIGHBOUR: 'it returns false'. Refute it at one input. -/
def fnExactWithoutCrossWrong : ChangeSpec := { name := "fnExactWithoutCross", fn := fun _ => fun
  | [d1, d2, d3] => { results := [.lit (.bool false)], args := [d1, d2, d3] }
  | _ => none }
def FnExactWithoutCrossWrongFalsely : Prop := fnExactWithoutCrossRow.holds Try.pinned (OpenSpec.ofChange fnExactWithoutCrossWrong)

/-- 'laws.FnExactDeterminantOf': WHATEVER THE INPUT: true; the input reads as it did. -/
def fnExactDeterminantOfSpec : ChangeSpec := { name := "fnExactDeterminantOf", fn := fun _ => fun
  | [d] => { results := [.lit (.bool true)], args := [d] }
  | _ => none }
def fnExactDeterminantOfRow : OpenClaim := { program := "ytdnajkoeojlnbaa", sum := "661f6bb649d88dcd34448233c8e4d07e15c4cf2647ed6f7148ca79ff469dbe1f", func := "loop.example/g03411/laws.FnExactDeterminantOf", spec := "fnExactDeterminantOf", unfollowed := true, recurses := true, apart := false }
def FnExactDeterminantOfSaid : Prop := fnExactDeterminantOfRow.holds Try.pinned (OpenSpec.ofChange fnExactDeterminantOfSpec)

/-- ITS FALSE NEIGHBOUR: 'it returns false'. Refute it at one input. -/
def fnExactDeterminantOfWrong : ChangeSpec := { name := "fnExactDeterminantOf", fn := fun _ => fun
  | [d] => { results := [.lit (.bool false)], args := [d] }
  | _ => none }
def FnExactDeterminantOfWrongFalsely : Prop := fnExactDeterminantOfRow.holds Try.pinned (OpenSpec.ofChange fnExactDeterminantOfWrong)

/-- 'laws.FnExactDeterminantBySteps': WHATEVER THE INPUT: true; the input reads as it did. -/
def fnExactDeterminantByStepsSpec : ChangeSpec := { name := "fnExactDeterminantBySteps", fn := fun _ => fun
  | [d] => { results := [.lit (.bool true)], args := [d] }
  | _ => none }
def fnExactDeterminantByStepsRow : OpenClaim := { program := "ytdnajkoeojlnbaa", sum := "661f6bb649d88dcd34448233c8e4d07e15c4cf2647ed6f7148ca79ff469dbe1f", func := "loop.example/g03411/laws.FnExactDeterminantBySteps", spec := "fnExactDeterminantBySteps", unfollowed := true, recurses := true, apart := false }
def FnExactDeterminantByStepsSaid : Prop := fnExactDeterminantByStepsRow.holds Try.pinned (OpenSpec.ofChange fnExactDeterminantByStepsSpec)

/-- ITS FALSE NEIGHBOUR: 'it returns false'. Refute it at one input. -/
def fnExactDeterminantByStepsWrong : ChangeSpec := { name := "fnExactDeterminantBySteps", fn := fun _ => fun
  | [d] => { results := [.lit (.bool false)], args := [d] }
  | _ => none }
def FnExactDeterminantByStepsWrongFalsely : Prop := fnExactDeterminantByStepsRow.holds Try.pinned (OpenSpec.ofChange fnExactDeterminantByStepsWrong)

/-- 'laws.FnExactAdjugateOf': WHATEVER THE INPUT: true; the input reads as it did. -/
def fnExactAdjugateOfSpec : ChangeSpec := { name := "fnExactAdjugateOf", fn := fun _ => fun
  | [d] => { results := [.lit (.bool true)], args := [d] }
  | _ => none }
def fnExactAdjugateOfRow : OpenClaim := { program := "ytdnajkoeojlnbaa", sum := "661f6bb649d88dcd34448233c8e4d07e15c4cf2647ed6f7148ca79ff469dbe1f", func := "loop.example/g03411/laws.FnExactAdjugateOf", spec := "fnExactAdjugateOf", unfollowed := true, recurses := true, apart := false }
def FnExactAdjugateOfSaid : Prop := fnExactAdjugateOfRow.holds Try.pinned (OpenSpec.ofChange fnExactAdjugateOfSpec)

/-- ITS FALSE NEIGHBOUR: 'it returns false'. Refute it at one input. -/
def fnExactAdjugateOfWrong : ChangeSpec := { name := "fnExactAdjugateOf", fn := fun _ => fun
  | [d] => { results := [.lit (.bool false)], args := [d] }
  | _ => none }
def FnExactAdjugateOfWrongFalsely : Prop := fnExactAdjugateOfRow.holds Try.pinned (OpenSpec.ofChange fnExactAdjugateOfWrong)

/-- 'laws.FnExactIsUnimodular': WHATEVER THE INPUT: true; the input reads as it did. -/
def fnExactIsUnimodularSpec : ChangeSpec := { name := "fnExactIsUnimodular", fn := fun _ => fun
  | [d] => { results := [.lit (.bool true)], args := [d] }
  | _ => none }
def fnExactIsUnimodularRow : OpenClaim := { program := "ytdnajkoeojlnbaa", sum := "661f6bb649d88dcd34448233c8e4d07e15c4cf2647ed6f7148ca79ff469dbe1f", func := "loop.example/g03411/laws.FnExactIsUnimodular", spec := "fnExactIsUnimodular", unfollowed := true, recurses := true, apart := false }
def FnExactIsUnimodularSaid : Prop := fnExactIsUnimodularRow.holds Try.pinned (OpenSpec.ofChange fnExactIsUnimodularSpec)

/-- ITS FALSE NEIGHBOUR: 'it returns false'. Refute it at one input. -/
def fnExactIsUnimodularWrong : ChangeSpec := { name := "fnExactIsUnimodular", fn := fun _ => fun
  | [d] => { results := [.lit (.bool false)], args := [d] }
  | _ => none }
def FnExactIsUnimodularWrongFalsely : Prop := fnExactIsUnimodularRow.holds Try.pinned (OpenSpec.ofChange fnExactIsUnimodularWrong)

/-- 'laws.FnExactInverseOf': WHATEVER THE INPUT: true; the input reads as it did. -/
def fnExactInverseOfSpec : ChangeSpec := { name := "fnExactInverseOf", fn := fun _ => fun
  | [d] => { results := [.lit (.bool true)], args := [d] }
  | _ => none }
def fnExactInverseOfRow : OpenClaim := { program := "ytdnajkoeojlnbaa", sum := "661f6bb649d88dcd34448233c8e4d07e15c4cf2647ed6f7148ca79ff469dbe1f", func := "loop.example/g03411/laws.FnExactInverseOf", spec := "fnExactInverseOf", unfollowed := true, recurses := true, apart := false }
def FnExactInverseOfSaid : Prop := fnExactInverseOfRow.holds Try.pinned (OpenSpec.ofChange fnExactInverseOfSpec)

/-- ITS FALSE NEIGHBOUR: 'it returns false'. Refute it at one input. -/
def fnExactInverseOfWrong : ChangeSpec := { name := "fnExactInverseOf", fn := fun _ => fun
  | [d] => { results := [.lit (.bool false)], args := [d] }
  | _ => none }
def FnExactInverseOfWrongFalsely : Prop := fnExactInverseOfRow.holds Try.pinned (OpenSpec.ofChange fnExactInverseOfWrong)

/-- 'laws.FnRowOps': WHATEVER THE INPUT: true; the input reads as it did. -/
def fnRowOpsSpec : ChangeSpec := { name := "fnRowOps", fn := fun _ => fun
  | [d] => { results := [.lit (.bool true)], args := [d] }
  | _ => none }
def fnRowOpsRow : OpenClaim := { program := "ytdnajkoeojlnbaa", sum := "661f6bb649d88dcd34448233c8e4d07e15c4cf2647ed6f7148ca79ff469dbe1f", func := "loop.example/g03411/laws.FnRowOps", spec := "fnRowOps", unfollowed := true, recurses := true, apart := false }
def FnRowOpsSaid : Prop := fnRowOpsRow.holds Try.pinned (OpenSpec.ofChange fnRowOpsSpec)

/-- ITS FALSE NEIGHBOUR: 'it returns false'. Refute it at one input. -/
def fnRowOpsWrong : ChangeSpec := { name := "fnRowOps", fn := fun _ => fun
  | [d] => { results := [.lit (.bool false)], args := [d] }
  | _ => none }
def FnRowOpsWrongFalsely : Prop := fnRowOpsRow.holds Try.pinned (OpenSpec.ofChange fnRowOpsWrong)

/-- 'laws.FnDeterminants': WHATEVER THE INPUT: true; the input reads as it did. -/
def fnDeterminantsSpec : ChangeSpec := { name := "fnDeterminants", fn := fun _ => fun
  | [d] => { results := [.lit (.bool true)], args := [d] }
  | _ => none }
def fnDeterminantsRow : OpenClaim := { program := "ytdnajkoeojlnbaa", sum := "661f6bb649d88dcd34448233c8e4d07e15c4cf2647ed6f7148ca79ff469dbe1f", func := "loop.example/g03411/laws.FnDeterminants", spec := "fnDeterminants", unfollowed := true, recurses := true, apart := false }
def FnDeterminantsSaid : Prop := fnDeterminantsRow.holds Try.pinned (OpenSpec.ofChange fnDeterminantsSpec)

/-- ITS FALSE NEIGHBOUR: 'it returns false'. Refute it at one input. -/
def fnDeterminantsWrong : ChangeSpec := { name := "fnDeterminants", fn := fun _ => fun
  | [d] => { results := [.lit (.bool false)], args := [d] }
  | _ => none }
def FnDeterminantsWrongFalsely : Prop := fnDeterminantsRow.holds Try.pinned (OpenSpec.ofChange fnDeterminantsWrong)

/-- 'laws.FnProducts': WHATEVER THE INPUT: true; the input reads as it did. -/
def fnProductsSpec : ChangeSpec := { name := "fnProducts", fn := fun _ => fun
  | [d] => { results := [.lit (.bool true)], args := [d] }
  | _ => none }
def fnProductsRow : OpenClaim := { program := "ytdnajkoeojlnbaa", sum := "661f6bb649d88dcd34448233c8e4d07e15c4cf2647ed6f7148ca79ff469dbe1f", func := "loop.example/g03411/laws.FnProducts", spec := "fnProducts", unfollowed := true, recurses := true, apart := false }
def FnProductsSaid : Prop := fnProductsRow.holds Try.pinned (OpenSpec.ofChange fnProductsSpec)

/-- ITS FALSE NEIGHBOUR: 'it returns false'. Refute it at one input. -/
def fnProductsWrong : ChangeSpec := { name := "fnProducts", fn := fun _ => fun
  | [d] => { results := [.lit (.bool false)], args := [d] }
  | _ => none }
def FnProductsWrongFalsely : Prop := fnProductsRow.holds Try.pinned (OpenSpec.ofChange fnProductsWrong)

/-- 'laws.FnAdjugate': WHATEVER THE INPUT: true; the input reads as it did. -/
def fnAdjugateSpec : ChangeSpec := { name := "fnAdjugate", fn := fun _ => fun
  | [d] => { results := [.lit (.bool true)], args := [d] }
  | _ => none }
def fnAdjugateRow : OpenClaim := { program := "ytdnajkoeojlnbaa", sum := "661f6bb649d88dcd34448233c8e4d07e15c4cf2647ed6f7148ca79ff469dbe1f", func := "loop.example/g03411/laws.FnAdjugate", spec := "fnAdjugate", unfollowed := true, recurses := true, apart := false }
def FnAdjugateSaid : Prop := fnAdjugateRow.holds Try.pinned (OpenSpec.ofChange fnAdjugateSpec)

/-- ITS FALSE NEIGHBOUR: 'it returns false'. Refute it at one input. -/
def fnAdjugateWrong : ChangeSpec := { name := "fnAdjugate", fn := fun _ => fun
  | [d] => { results := [.lit (.bool false)], args := [d] }
  | _ => none }
def FnAdjugateWrongFalsely : Prop := fnAdjugateRow.holds Try.pinned (OpenSpec.ofChange fnAdjugateWrong)

/-- 'laws.FnExactCellOf': WHATEVER THE INPUT: true; the input reads as it did. -/
def fnExactCellOfSpec : ChangeSpec := { name := "fnExactCellOf", fn := fun _ => fun
  | [d1, d2, d3] => { results := [.lit (.bool true)], args := [d1, d2, d3] }
  | _ => none }
def fnExactCellOfRow : OpenClaim := { program := "ytdnajkoeojlnbaa", sum := "661f6bb649d88dcd34448233c8e4d07e15c4cf2647ed6f7148ca79ff469dbe1f", func := "loop.example/g03411/laws.FnExactCellOf", spec := "fnExactCellOf", unfollowed := true, recurses := true, apart := false }
def FnExactCellOfSaid : Prop := fnExactCellOfRow.holds Try.pinned (OpenSpec.ofChange fnExactCellOfSpec)

/-- ITS FALSE NEIGHBOUR: 'it returns false'. Refute it at one input. -/
def fnExactCellOfWrong : ChangeSpec := { name := "fnExactCellOf", fn := fun _ => fun
  | [d1, d2, d3] => { results := [.lit (.bool false)], args := [d1, d2, d3] }
  | _ => none }
def FnExactCellOfWrongFalsely : Prop := fnExactCellOfRow.holds Try.pinned (OpenSpec.ofChange fnExactCellOfWrong)

/- THE SECOND FORM. 'bulk': how many values and letters a reading holds, each counted each time it is reached (what is shared counts as often as it is met; a slice's spare places count too). A statement '..UptoSaid' is the law's where the arguments, and the package variables that the reading takes, are together of bulk at most 1048576: NARROWER than '..Said'. Prove '..Said' where nothing that the law and all that it calls make is longer than what came in: it says more and counts as full. Else prove '..UptoSaid'. A law counts once. -/
mutual
def uptoBulk {H : Type} : DataW H → Nat
  | .lit (.string bytes) => bytes.length + 1
  | .lit _ => 1
  | .nil => 1
  | .ptr d => uptoBulk d + 1
  | .slice elems spare => uptoBulkAll elems + uptoBulkAll spare + 1
  | .agg parts => uptoBulkAll parts + 1
  | .iface _ d => uptoBulk d + 1
  | .map entries => uptoBulkEntries entries + 1
  | .held _ => 1
def uptoBulkAll {H : Type} : List (DataW H) → Nat
  | [] => 0
  | d :: r => uptoBulk d + uptoBulkAll r
def uptoBulkEntries {H : Type} : List (Lit × DataW H) → Nat
  | [] => 0
  | x :: r => uptoBulkEntry x + uptoBulkEntries r
def uptoBulkEntry {H : Type} : Lit × DataW H → Nat
  | (.string bytes, d) => bytes.length + uptoBulk d + 1
  | (_, d) => uptoBulk d + 1
 end
def uptoSmall : (H : Type) → List (DataW H) → Bool := fun _ ds => decide (uptoBulkAll ds ≤ 1048576)
def OpenSpec.upto (s : _root_.Go.ChangeSpec) : _root_.Go.OpenSpec := { _root_.Go.OpenSpec.ofChange s with cond := some uptoSmall }

/-- 'laws.FnExactIsSquare', WHERE WHAT IT READS IS OF BULK AT MOST 1048576: true; the input reads as it did. -/
def fnExactIsSquareUptoRow : OpenClaim := { program := "ytdnajkoeojlnbaa", sum := "661f6bb649d88dcd34448233c8e4d07e15c4cf2647ed6f7148ca79ff469dbe1f", func := "loop.example/g03411/laws.FnExactIsSquare", spec := "fnExactIsSquare", unfollowed := true, recurses := true, apart := false, narrowed := true }
def FnExactIsSquareUptoSaid : Prop := fnExactIsSquareUptoRow.holds Try.pinned (OpenSpec.upto fnExactIsSquareSpec)

/-- 'laws.FnExactWithoutCross', WHERE WHAT IT READS IS OF BULK AT MOST 1048576: true; the input reads as it did. -/
def fnExactWithoutCrossUptoRow : OpenClaim := { program := "ytdnajkoeojlnbaa", sum := "661f6bb649d88dcd34448233c8e4d07e15c4cf2647ed6f7148ca79ff469dbe1f", func := "loop.example/g03411/laws.FnExactWithoutCross", spec := "fnExactWithoutCross", unfollowed := true, recurses := true, apart := false, narrowed := true }
def FnExactWithoutCrossUptoSaid : Prop := fnExactWithoutCrossUptoRow.holds Try.pinned (OpenSpec.upto fnExactWithoutCrossSpec)

/-- 'laws.FnExactDeterminantOf', WHERE WHAT IT READS IS OF BULK AT MOST 1048576: true; the input reads as it did. -/
def fnExactDeterminantOfUptoRow : OpenClaim := { program := "ytdnajkoeojlnbaa", sum := "661f6bb649d88dcd34448233c8e4d07e15c4cf2647ed6f7148ca79ff469dbe1f", func := "loop.example/g03411/laws.FnExactDeterminantOf", spec := "fnExactDeterminantOf", unfollowed := true, recurses := true, apart := false, narrowed := true }
def FnExactDeterminantOfUptoSaid : Prop := fnExactDeterminantOfUptoRow.holds Try.pinned (OpenSpec.upto fnExactDeterminantOfSpec)

/-- 'laws.FnExactDeterminantBySteps', WHERE WHAT IT READS IS OF BULK AT MOST 1048576: true; the input reads as it did. -/
def fnExactDeterminantByStepsUptoRow : OpenClaim := { program := "ytdnajkoeojlnbaa", sum := "661f6bb649d88dcd34448233c8e4d07e15c4cf2647ed6f7148ca79ff469dbe1f", func := "loop.example/g03411/laws.FnExactDeterminantBySteps", spec := "fnExactDeterminantBySteps", unfollowed := true, recurses := true, apart := false, narrowed := true }
def FnExactDeterminantByStepsUptoSaid : Prop := fnExactDeterminantByStepsUptoRow.holds Try.pinned (OpenSpec.upto fnExactDeterminantByStepsSpec)

/-- 'laws.FnExactAdjugateOf', WHERE WHAT IT READS IS OF BULK AT MOST 1048576: true; the input reads as it did. -/
def fnExactAdjugateOfUptoRow : OpenClaim := { program := "ytdnajkoeojlnbaa", sum := "661f6bb649d88dcd34448233c8e4d07e15c4cf2647ed6f7148ca79ff469dbe1f", func := "loop.example/g03411/laws.FnExactAdjugateOf", spec := "fnExactAdjugateOf", unfollowed := true, recurses := true, apart := false, narrowed := true }
def FnExactAdjugateOfUptoSaid : Prop := fnExactAdjugateOfUptoRow.holds Try.pinned (OpenSpec.upto fnExactAdjugateOfSpec)

/-- 'laws.FnExactIsUnimodular', WHERE WHAT IT READS IS OF BULK AT MOST 1048576: true; the input reads as it did. -/
def fnExactIsUnimodularUptoRow : OpenClaim := { program := "ytdnajkoeojlnbaa", sum := "661f6bb649d88dcd34448233c8e4d07e15c4cf2647ed6f7148ca79ff469dbe1f", func := "loop.example/g03411/laws.FnExactIsUnimodular", spec := "fnExactIsUnimodular", unfollowed := true, recurses := true, apart := false, narrowed := true }
def FnExactIsUnimodularUptoSaid : Prop := fnExactIsUnimodularUptoRow.holds Try.pinned (OpenSpec.upto fnExactIsUnimodularSpec)

/-- 'laws.FnExactInverseOf', WHERE WHAT IT READS IS OF BULK AT MOST 1048576: true; the input reads as it did. -/
def fnExactInverseOfUptoRow : OpenClaim := { program := "ytdnajkoeojlnbaa", sum := "661f6bb649d88dcd34448233c8e4d07e15c4cf2647ed6f7148ca79ff469dbe1f", func := "loop.example/g03411/laws.FnExactInverseOf", spec := "fnExactInverseOf", unfollowed := true, recurses := true, apart := false, narrowed := true }
def FnExactInverseOfUptoSaid : Prop := fnExactInverseOfUptoRow.holds Try.pinned (OpenSpec.upto fnExactInverseOfSpec)

/-- 'laws.FnRowOps', WHERE WHAT IT READS IS OF BULK AT MOST 1048576: true; the input reads as it did. -/
def fnRowOpsUptoRow : OpenClaim := { program := "ytdnajkoeojlnbaa", sum := "661f6bb649d88dcd34448233c8e4d07e15c4cf2647ed6f7148ca79ff469dbe1f", func := "loop.example/g03411/laws.FnRowOps", spec := "fnRowOps", unfollowed := true, recurses := true, apart := false, narrowed := true }
def FnRowOpsUptoSaid : Prop := fnRowOpsUptoRow.holds Try.pinned (OpenSpec.upto fnRowOpsSpec)

/-- 'laws.FnDeterminants', WHERE WHAT IT READS IS OF BULK AT MOST 1048576: true; the input reads as it did. -/
def fnDeterminantsUptoRow : OpenClaim := { program := "ytdnajkoeojlnbaa", sum := "661f6bb649d88dcd34448233c8e4d07e15c4cf2647ed6f7148ca79ff469dbe1f", func := "loop.example/g03411/laws.FnDeterminants", spec := "fnDeterminants", unfollowed := true, recurses := true, apart := false, narrowed := true }
def FnDeterminantsUptoSaid : Prop := fnDeterminantsUptoRow.holds Try.pinned (OpenSpec.upto fnDeterminantsSpec)

/-- 'laws.FnProducts', WHERE WHAT IT READS IS OF BULK AT MOST 1048576: true; the input reads as it did. -/
def fnProductsUptoRow : OpenClaim := { program := "ytdnajkoeojlnbaa", sum := "661f6bb649d88dcd34448233c8e4d07e15c4cf2647ed6f7148ca79ff469dbe1f", func := "loop.example/g03411/laws.FnProducts", spec := "fnProducts", unfollowed := true, recurses := true, apart := false, narrowed := true }
def FnProductsUptoSaid : Prop := fnProductsUptoRow.holds Try.pinned (OpenSpec.upto fnProductsSpec)

/-- 'laws.FnAdjugate', WHERE WHAT IT READS IS OF BULK AT MOST 1048576: true; the input reads as it did. -/
def fnAdjugateUptoRow : OpenClaim := { program := "ytdnajkoeojlnbaa", sum := "661f6bb649d88dcd34448233c8e4d07e15c4cf2647ed6f7148ca79ff469dbe1f", func := "loop.example/g03411/laws.FnAdjugate", spec := "fnAdjugate", unfollowed := true, recurses := true, apart := false, narrowed := true }
def FnAdjugateUptoSaid : Prop := fnAdjugateUptoRow.holds Try.pinned (OpenSpec.upto fnAdjugateSpec)

/-- 'laws.FnExactCellOf', WHERE WHAT IT READS IS OF BULK AT MOST 1048576: true; the input reads as it did. -/
def fnExactCellOfUptoRow : OpenClaim := { program := "ytdnajkoeojlnbaa", sum := "661f6bb649d88dcd34448233c8e4d07e15c4cf2647ed6f7148ca79ff469dbe1f", func := "loop.example/g03411/laws.FnExactCellOf", spec := "fnExactCellOf", unfollowed := true, recurses := true, apart := false, narrowed := true }
def FnExactCellOfUptoSaid : Prop := fnExactCellOfUptoRow.holds Try.pinned (OpenSpec.upto fnExactCellOfSpec)

end Rows
end Go.Proofs.Ytdnajkoeojlnbaa
