/-
  No cell of these rows narrows 'for every input' (looked for: loops, veiled, ifaces, maps, wideKeys, modest, calm, conditions, laid).
  DERIVED. THE GIVEN ROWS OF THIS SEAT. 11 by the template 'for every input the law returns true; each argument reads behind the call as it read before'; 0 by the template 'total and deterministic' (their statements: YtpelnfenfeoeeaaTotals.lean).
  GIVEN WITH THE SEED: the statements are not yours to turn. If you find one false, say at which input.
  Laid BY PROGRAM, IN A SANDBOX (cutbox-rows.mjs): the forced cells as the released guide's own fill.sh prints them over the translation 2986e5dc6b443ba9… (all of the seat's roots in one cut). By AI agents, Wed Nov 11 2026. No macro, syntax, notation, axiom, sorry.
-/
import Derived.Test.YtpelnfenfeoeeaaChecked
import GoSem.Claim
import GoSem.ClaimJoined
import GoSem.ClaimMapViews
import Derived.JoinedTies
import Derived.KernelRfl
namespace Go.Proofs.Ytpelnfenfeoeeaa
/- THE CELL 'sum', in the pinned program and in every row, IS THE sha256 OF THE DUMP (.gsa) THAT YtpelnfenfeoeeaaProg.lean LOADS. Nothing in Lean hashes anything: it is a label: what it is worth is what the hold of that sum in a sandbox is worth. -/
noncomputable def Try.pinned : Pinned := { name := "ytpelnfenfeoeeaa", sum := "2986e5dc6b443ba9920a54dbc89b859ef05d5f3ce4cf59473a342194d3254734", checked := Try.checked }
namespace Rows
def none {H : Type} : Left H := { results := [], args := [] }

/-- 'laws.FnExactSmithForm': WHATEVER THE INPUT: true; the input reads as it did. -/
def fnExactSmithFormSpec : ChangeSpec := { name := "fnExactSmithForm", fn := fun _ => fun
  | [d] => { results := [.lit (.bool true)], args := [d] }
  | _ => none }
def fnExactSmithFormRow : OpenClaim := { program := "ytpelnfenfeoeeaa", sum := "2986e5dc6b443ba9920a54dbc89b859ef05d5f3ce4cf59473a342194d3254734", func := "loop.example/g03411/laws.FnExactSmithForm", spec := "fnExactSmithForm", unfollowed := true, recurses := true, apart := false }
def FnExactSmithFormSaid : Prop := fnExactSmithFormRow.holds Try.pinned (OpenSpec.ofChange fnExactSmithFormSpec)

/-- ITS FALSE NEIGHBOUR: 'it returns false'. Refute it at one input. -/
def fnExactSmithFormWrong : ChangeSpec := { name := "fnExactSmithForm", fn := fun _ => fun
  | [d] => { results := [.lit (.bool false)], args := [d] }
  | _ => none }
def FnExactSmithFormWrongFalsely : Prop := fnExactSmithFormRow.holds Try.pinned (OpenSpec.ofChange fnExactSmithFormWrong)

/-- 'laws.FnExactIsSmith': WHATEVER THE INPUT: true; the input reads as it did. -/
def fnExactIsSmithSpec : ChangeSpec := { name := "fnExactIsSmith", fn := fun _ => fun
  | [d] => { results := [.lit (.bool true)], args := [d] }
  | _ => none }
def fnExactIsSmithRow : OpenClaim := { program := "ytpelnfenfeoeeaa", sum := "2986e5dc6b443ba9920a54dbc89b859ef05d5f3ce4cf59473a342194d3254734", func := "loop.example/g03411/laws.FnExactIsSmith", spec := "fnExactIsSmith", unfollowed := true, recurses := true, apart := false }
def FnExactIsSmithSaid : Prop := fnExactIsSmithRow.holds Try.pinned (OpenSpec.ofChange fnExactIsSmithSpec)

/-- ITS FALSE NEIGHBOUR: 'it returns false'. Refute it at one input. -/
def fnExactIsSmithWrong : ChangeSpec := { name := "fnExactIsSmith", fn := fun _ => fun
  | [d] => { results := [.lit (.bool false)], args := [d] }
  | _ => none }
def FnExactIsSmithWrongFalsely : Prop := fnExactIsSmithRow.holds Try.pinned (OpenSpec.ofChange fnExactIsSmithWrong)

/-- 'laws.FnExactFactorsOf': WHATEVER THE INPUT: true; the input reads as it did. -/
def fnExactFactorsOfSpec : ChangeSpec := { name := "fnExactFactorsOf", fn := fun _ => fun
  | [d] => { results := [.lit (.bool true)], args := [d] }
  | _ => none }
def fnExactFactorsOfRow : OpenClaim := { program := "ytpelnfenfeoeeaa", sum := "2986e5dc6b443ba9920a54dbc89b859ef05d5f3ce4cf59473a342194d3254734", func := "loop.example/g03411/laws.FnExactFactorsOf", spec := "fnExactFactorsOf", unfollowed := true, recurses := true, apart := false }
def FnExactFactorsOfSaid : Prop := fnExactFactorsOfRow.holds Try.pinned (OpenSpec.ofChange fnExactFactorsOfSpec)

/-- ITS FALSE NEIGHBOUR: 'it returns false'. Refute it at one input. -/
def fnExactFactorsOfWrong : ChangeSpec := { name := "fnExactFactorsOf", fn := fun _ => fun
  | [d] => { results := [.lit (.bool false)], args := [d] }
  | _ => none }
def FnExactFactorsOfWrongFalsely : Prop := fnExactFactorsOfRow.holds Try.pinned (OpenSpec.ofChange fnExactFactorsOfWrong)

/-- 'laws.FnExactMinorGcd': WHATEVER THE INPUT: true; the input reads as it did. -/
def fnExactMinorGcdSpec : ChangeSpec := { name := "fnExactMinorGcd", fn := fun _ => fun
  | [d1, d2] => { results := [.lit (.bool true)], args := [d1, d2] }
  | _ => none }
def fnExactMinorGcdRow : OpenClaim := { program := "ytpelnfenfeoeeaa", sum := "2986e5dc6b443ba9920a54dbc89b859ef05d5f3ce4cf59473a342194d3254734", func := "loop.example/g03411/laws.FnExactMinorGcd", spec := "fnExactMinorGcd", unfollowed := true, recurses := true, apart := false }
def FnExactMinorGcdSaid : Prop := fnExactMinorGcdRow.holds Try.pinned (OpenSpec.ofChange fnExactMinorGcdSpec)

/-- ITS FALSE NEIGHBOUR: 'it returns false'. Refute it at one input. -/
def fnExactMinorGcdWrong : ChangeSpec := { name := "fnExactMinorGcd", fn := fun _ => fun
  | [d1, d2] => { results := [.lit (.bool false)], args := [d1, d2] }
  | _ => none }
def FnExactMinorGcdWrongFalsely : Prop := fnExactMinorGcdRow.holds Try.pinned (OpenSpec.ofChange fnExactMinorGcdWrong)

/-- 'laws.FnRanks': WHATEVER THE INPUT: true; the input reads as it did. -/
def fnRanksSpec : ChangeSpec := { name := "fnRanks", fn := fun _ => fun
  | [d] => { results := [.lit (.bool true)], args := [d] }
  | _ => none }
def fnRanksRow : OpenClaim := { program := "ytpelnfenfeoeeaa", sum := "2986e5dc6b443ba9920a54dbc89b859ef05d5f3ce4cf59473a342194d3254734", func := "loop.example/g03411/laws.FnRanks", spec := "fnRanks", unfollowed := true, recurses := true, apart := false }
def FnRanksSaid : Prop := fnRanksRow.holds Try.pinned (OpenSpec.ofChange fnRanksSpec)

/-- ITS FALSE NEIGHBOUR: 'it returns false'. Refute it at one input. -/
def fnRanksWrong : ChangeSpec := { name := "fnRanks", fn := fun _ => fun
  | [d] => { results := [.lit (.bool false)], args := [d] }
  | _ => none }
def FnRanksWrongFalsely : Prop := fnRanksRow.holds Try.pinned (OpenSpec.ofChange fnRanksWrong)

/-- 'laws.FnExactHermiteForm': WHATEVER THE INPUT: true; the input reads as it did. -/
def fnExactHermiteFormSpec : ChangeSpec := { name := "fnExactHermiteForm", fn := fun _ => fun
  | [d] => { results := [.lit (.bool true)], args := [d] }
  | _ => none }
def fnExactHermiteFormRow : OpenClaim := { program := "ytpelnfenfeoeeaa", sum := "2986e5dc6b443ba9920a54dbc89b859ef05d5f3ce4cf59473a342194d3254734", func := "loop.example/g03411/laws.FnExactHermiteForm", spec := "fnExactHermiteForm", unfollowed := true, recurses := true, apart := false }
def FnExactHermiteFormSaid : Prop := fnExactHermiteFormRow.holds Try.pinned (OpenSpec.ofChange fnExactHermiteFormSpec)

/-- ITS FALSE NEIGHBOUR: 'it returns false'. Refute it at one input. -/
def fnExactHermiteFormWrong : ChangeSpec := { name := "fnExactHermiteForm", fn := fun _ => fun
  | [d] => { results := [.lit (.bool false)], args := [d] }
  | _ => none }
def FnExactHermiteFormWrongFalsely : Prop := fnExactHermiteFormRow.holds Try.pinned (OpenSpec.ofChange fnExactHermiteFormWrong)

/-- 'laws.FnExactBasisOf': WHATEVER THE INPUT: true; the input reads as it did. -/
def fnExactBasisOfSpec : ChangeSpec := { name := "fnExactBasisOf", fn := fun _ => fun
  | [d] => { results := [.lit (.bool true)], args := [d] }
  | _ => none }
def fnExactBasisOfRow : OpenClaim := { program := "ytpelnfenfeoeeaa", sum := "2986e5dc6b443ba9920a54dbc89b859ef05d5f3ce4cf59473a342194d3254734", func := "loop.example/g03411/laws.FnExactBasisOf", spec := "fnExactBasisOf", unfollowed := true, recurses := true, apart := false }
def FnExactBasisOfSaid : Prop := fnExactBasisOfRow.holds Try.pinned (OpenSpec.ofChange fnExactBasisOfSpec)

/-- ITS FALSE NEIGHBOUR: 'it returns false'. Refute it at one input. -/
def fnExactBasisOfWrong : ChangeSpec := { name := "fnExactBasisOf", fn := fun _ => fun
  | [d] => { results := [.lit (.bool false)], args := [d] }
  | _ => none }
def FnExactBasisOfWrongFalsely : Prop := fnExactBasisOfRow.holds Try.pinned (OpenSpec.ofChange fnExactBasisOfWrong)

/-- 'laws.FnHermite': WHATEVER THE INPUT: true; the input reads as it did. -/
def fnHermiteSpec : ChangeSpec := { name := "fnHermite", fn := fun _ => fun
  | [d] => { results := [.lit (.bool true)], args := [d] }
  | _ => none }
def fnHermiteRow : OpenClaim := { program := "ytpelnfenfeoeeaa", sum := "2986e5dc6b443ba9920a54dbc89b859ef05d5f3ce4cf59473a342194d3254734", func := "loop.example/g03411/laws.FnHermite", spec := "fnHermite", unfollowed := true, recurses := true, apart := false }
def FnHermiteSaid : Prop := fnHermiteRow.holds Try.pinned (OpenSpec.ofChange fnHermiteSpec)

/-- ITS FALSE NEIGHBOUR: 'it returns false'. Refute it at one input. -/
def fnHermiteWrong : ChangeSpec := { name := "fnHermite", fn := fun _ => fun
  | [d] => { results := [.lit (.bool false)], args := [d] }
  | _ => none }
def FnHermiteWrongFalsely : Prop := fnHermiteRow.holds Try.pinned (OpenSpec.ofChange fnHermiteWrong)

/-- 'laws.FnExactDeterminantOf': WHATEVER THE INPUT: true; the input reads as it did. -/
def fnExactDeterminantOfSpec : ChangeSpec := { name := "fnExactDeterminantOf", fn := fun _ => fun
  | [d] => { results := [.lit (.bool true)], args := [d] }
  | _ => none }
def fnExactDeterminantOfRow : OpenClaim := { program := "ytpelnfenfeoeeaa", sum := "2986e5dc6b443ba9920a54dbc89b859ef05d5f3ce4cf59473a342194d3254734", func := "loop.example/g03411/laws.FnExactDeterminantOf", spec := "fnExactDeterminantOf", unfollowed := true, recurses := true, apart := false }
def FnExactDeterminantOfSaid : Prop := fnExactDeterminantOfRow.holds Try.pinned (OpenSpec.ofChange fnExactDeterminantOfSpec)

/-- ITS FALSE NEIGHBOUR: 'it returns false'. Refute it at one input. -/
def fnExactDeterminantOfWrong : ChangeSpec := { name := "fnExactDeterminantOf", fn := fun _ => fun
  | [d] => { results := [.lit (.bool false)], args := [d] }
  | _ => none }
def FnExactDeterminantOfWrongFalsely : Prop := fnExactDeterminantOfRow.holds Try.pinned (OpenSpec.ofChange fnExactDeterminantOfWrong)

/-- 'laws.FnExactIsUnimodular': WHATEVER THE INPUT: true; the input reads as it did. -/
def fnExactIsUnimodularSpec : ChangeSpec := { name := "fnExactIsUnimodular", fn := fun _ => fun
  | [d] => { results := [.lit (.bool true)], args := [d] }
  | _ => none }
def fnExactIsUnimodularRow : OpenClaim := { program := "ytpelnfenfeoeeaa", sum := "2986e5dc6b443ba9920a54dbc89b859ef05d5f3ce4cf59473a342194d3254734", func := "loop.example/g03411/laws.FnExactIsUnimodular", spec := "fnExactIsUnimodular", unfollowed := true, recurses := true, apart := false }
def FnExactIsUnimodularSaid : Prop := fnExactIsUnimodularRow.holds Try.pinned (OpenSpec.ofChange fnExactIsUnimodularSpec)

/-- ITS FALSE NEIGHBOUR: 'it returns false'. Refute it at one input. -/
def fnExactIsUnimodularWrong : ChangeSpec := { name := "fnExactIsUnimodular", fn := fun _ => fun
  | [d] => { results := [.lit (.bool false)], args := [d] }
  | _ => none }
def FnExactIsUnimodularWrongFalsely : Prop := fnExactIsUnimodularRow.holds Try.pinned (OpenSpec.ofChange fnExactIsUnimodularWrong)

/-- 'laws.FnProducts': WHATEVER THE INPUT: true; the input reads as it did. -/
def fnProductsSpec : ChangeSpec := { name := "fnProducts", fn := fun _ => fun
  | [d] => { results := [.lit (.bool true)], args := [d] }
  | _ => none }
def fnProductsRow : OpenClaim := { program := "ytpelnfenfeoeeaa", sum := "2986e5dc6b443ba9920a54dbc89b859ef05d5f3ce4cf59473a342194d3254734", func := "loop.example/g03411/laws.FnProducts", spec := "fnProducts", unfollowed := true, recurses := true, apart := false }
def FnProductsSaid : Prop := fnProductsRow.holds Try.pinned (OpenSpec.ofChange fnProductsSpec)

/-- ITS FALSE NEIGHBOUR: 'it returns false'. Refute it at one input. -/
def fnProductsWrong : ChangeSpec := { name := "fnProducts", fn := fun _ => fun
  | [d] => { results := [.lit (.bool false)], args := [d] }
  | _ => none }
def FnProductsWrongFalsely : Prop := fnProductsRow.holds Try.pinned (OpenSpec.ofChange fnProductsWrong)

/- THE SECOND FORM. 'bulk': how many values and letters a reading holds, each counted each time it is reached (what is shared counts as often as it is met; a slice's spare places count too). A statement '..UptoSaid' is the law's where the arguments, and the package variables that the reading takes, are together of bulk at most 1048576: NARROWER than '..Said'. Prove '..Said' where nothing that the law and all that it calls make is longer than what came in: it says more and counts as full. Else prove '..UptoSaid'. A law counts once. -/
mutual
def uptoBulk {H : Type} : DataW H → Nat
  | .lit (.string bytes) => bytes.length + 1
  | .lit _ => 1
  | .nil => 1
  | .ptr d => uptoBulk d + 1
  | .slice elems spare => uptoBulkAll elems + uptoBulkAll spare + 1
  | .agg parts => uptoBulkAll parts + 1
  | .iface _ d => uptoBulk d + 1
  | .map entries => uptoBulkEntries entries + 1
  | .held _ => 1
def uptoBulkAll {H : Type} : List (DataW H) → Nat
  | [] => 0
  | d :: r => uptoBulk d + uptoBulkAll r
def uptoBulkEntries {H : Type} : List (Lit × DataW H) → Nat
  | [] => 0
  | x :: r => uptoBulkEntry x + uptoBulkEntries r
def uptoBulkEntry {H : Type} : Lit × DataW H → Nat
  | (.string bytes, d) => bytes.length + uptoBulk d + 1
  | (_, d) => uptoBulk d + 1
 end
def uptoSmall : (H : Type) → List (DataW H) → Bool := fun _ ds => decide (uptoBulkAll ds ≤ 1048576)
def OpenSpec.upto (s : _root_.Go.ChangeSpec) : _root_.Go.OpenSpec := { _root_.Go.OpenSpec.ofChange s with cond := some uptoSmall }

/-- 'laws.FnExactSmithForm', WHERE WHAT IT READS IS OF BULK AT MOST 1048576: true; the input reads as it did. -/
def fnExactSmithFormUptoRow : OpenClaim := { program := "ytpelnfenfeoeeaa", sum := "2986e5dc6b443ba9920a54dbc89b859ef05d5f3ce4cf59473a342194d3254734", func := "loop.example/g03411/laws.FnExactSmithForm", spec := "fnExactSmithForm", unfollowed := true, recurses := true, apart := false, narrowed := true }
def FnExactSmithFormUptoSaid : Prop := fnExactSmithFormUptoRow.holds Try.pinned (OpenSpec.upto fnExactSmithFormSpec)

/-- 'laws.FnExactIsSmith', WHERE WHAT IT READS IS OF BULK AT MOST 1048576: true; the input reads as it did. -/
def fnExactIsSmithUptoRow : OpenClaim := { program := "ytpelnfenfeoeeaa", sum := "2986e5dc6b443ba9920a54dbc89b859ef05d5f3ce4cf59473a342194d3254734", func := "loop.example/g03411/laws.FnExactIsSmith", spec := "fnExactIsSmith", unfollowed := true, recurses := true, apart := false, narrowed := true }
def FnExactIsSmithUptoSaid : Prop := fnExactIsSmithUptoRow.holds Try.pinned (OpenSpec.upto fnExactIsSmithSpec)

/-- 'laws.FnExactFactorsOf', WHERE WHAT IT READS IS OF BULK AT MOST 1048576: true; the input reads as it did. -/
def fnExactFactorsOfUptoRow : OpenClaim := { program := "ytpelnfenfeoeeaa", sum := "2986e5dc6b443ba9920a54dbc89b859ef05d5f3ce4cf59473a342194d3254734", func := "loop.example/g03411/laws.FnExactFactorsOf", spec := "fnExactFactorsOf", unfollowed := true, recurses := true, apart := false, narrowed := true }
def FnExactFactorsOfUptoSaid : Prop := fnExactFactorsOfUptoRow.holds Try.pinned (OpenSpec.upto fnExactFactorsOfSpec)

/-- 'laws.FnExactMinorGcd', WHERE WHAT IT READS IS OF BULK AT MOST 1048576: true; the input reads as it did. -/
def fnExactMinorGcdUptoRow : OpenClaim := { program := "ytpelnfenfeoeeaa", sum := "2986e5dc6b443ba9920a54dbc89b859ef05d5f3ce4cf59473a342194d3254734", func := "loop.example/g03411/laws.FnExactMinorGcd", spec := "fnExactMinorGcd", unfollowed := true, recurses := true, apart := false, narrowed := true }
def FnExactMinorGcdUptoSaid : Prop := fnExactMinorGcdUptoRow.holds Try.pinned (OpenSpec.upto fnExactMinorGcdSpec)

/-- 'laws.FnRanks', WHERE WHAT IT READS IS OF BULK AT MOST 1048576: true; the input reads as it did. -/
def fnRanksUptoRow : OpenClaim := { program := "ytpelnfenfeoeeaa", sum := "2986e5dc6b443ba9920a54dbc89b859ef05d5f3ce4cf59473a342194d3254734", func := "loop.example/g03411/laws.FnRanks", spec := "fnRanks", unfollowed := true, recurses := true, apart := false, narrowed := true }
def FnRanksUptoSaid : Prop := fnRanksUptoRow.holds Try.pinned (OpenSpec.upto fnRanksSpec)

/-- 'laws.FnExactHermiteForm', WHERE WHAT IT READS IS OF BULK AT MOST 1048576: true; the input reads as it did. -/
def fnExactHermiteFormUptoRow : OpenClaim := { program := "ytpelnfenfeoeeaa", sum := "2986e5dc6b443ba9920a54dbc89b859ef05d5f3ce4cf59473a342194d3254734", func := "loop.example/g03411/laws.FnExactHermiteForm", spec := "fnExactHermiteForm", unfollowed := true, recurses := true, apart := false, narrowed := true }
def FnExactHermiteFormUptoSaid : Prop := fnExactHermiteFormUptoRow.holds Try.pinned (OpenSpec.upto fnExactHermiteFormSpec)

/-- 'laws.FnExactBasisOf', WHERE WHAT IT READS IS OF BULK AT MOST 1048576: true; the input reads as it did. -/
def fnExactBasisOfUptoRow : OpenClaim := { program := "ytpelnfenfeoeeaa", sum := "2986e5dc6b443ba9920a54dbc89b859ef05d5f3ce4cf59473a342194d3254734", func := "loop.example/g03411/laws.FnExactBasisOf", spec := "fnExactBasisOf", unfollowed := true, recurses := true, apart := false, narrowed := true }
def FnExactBasisOfUptoSaid : Prop := fnExactBasisOfUptoRow.holds Try.pinned (OpenSpec.upto fnExactBasisOfSpec)

/-- 'laws.FnHermite', WHERE WHAT IT READS IS OF BULK AT MOST 1048576: true; the input reads as it did. -/
def fnHermiteUptoRow : OpenClaim := { program := "ytpelnfenfeoeeaa", sum := "2986e5dc6b443ba9920a54dbc89b859ef05d5f3ce4cf59473a342194d3254734", func := "loop.example/g03411/laws.FnHermite", spec := "fnHermite", unfollowed := true, recurses := true, apart := false, narrowed := true }
def FnHermiteUptoSaid : Prop := fnHermiteUptoRow.holds Try.pinned (OpenSpec.upto fnHermiteSpec)

/-- 'laws.FnExactDeterminantOf', WHERE WHAT IT READS IS OF BULK AT MOST 1048576: true; the input reads as it did. -/
def fnExactDeterminantOfUptoRow : OpenClaim := { program := "ytpelnfenfeoeeaa", sum := "2986e5dc6b443ba9920a54dbc89b859ef05d5f3ce4cf59473a342194d3254734", func := "loop.example/g03411/laws.FnExactDeterminantOf", spec := "fnExactDeterminantOf", unfollowed := true, recurses := true, apart := false, narrowed := true }
def FnExactDeterminantOfUptoSaid : Prop := fnExactDeterminantOfUptoRow.holds Try.pinned (OpenSpec.upto fnExactDeterminantOfSpec)

/-- 'laws.FnExactIsUnimodular', WHERE WHAT IT READS IS OF BULK AT MOST 1048576: true; the input reads as it did. -/
def fnExactIsUnimodularUptoRow : OpenClaim := { program := "ytpelnfenfeoeeaa", sum := "2986e5dc6b443ba9920a54dbc89b859ef05d5f3ce4cf59473a342194d3254734", func := "loop.example/g03411/laws.FnExactIsUnimodular", spec := "fnExactIsUnimodular", unfollowed := true, recurses := true, apart := false, narrowed := true }
def FnExactIsUnimodularUptoSaid : Prop := fnExactIsUnimodularUptoRow.holds Try.pinned (OpenSpec.upto fnExactIsUnimodularSpec)

/-- 'laws.FnProducts', WHERE WHAT IT READS IS OF BULK AT MOST 1048576: true; the input reads as it did. -/
def fnProductsUptoRow : OpenClaim := { program := "ytpelnfenfeoeeaa", sum := "2986e5dc6b443ba9920a54dbc89b859ef05d5f3ce4cf59473a342194d3254734", func := "loop.example/g03411/laws.FnProducts", spec := "fnProducts", unfollowed := true, recurses := true, apart := false, narrowed := true }
def FnProductsUptoSaid : Prop := fnProductsUptoRow.holds Try.pinned (OpenSpec.upto fnProductsSpec)

end Rows
end Go.Proofs.Ytpelnfenfeoeeaa
