/-
  No cell of these rows narrows 'for every input' (looked for: loops, veiled, ifaces, maps, wideKeys, modest, calm, conditions, laid).
  DERIVED. THE GIVEN ROWS OF THIS SEAT. 6 by the template 'for every input the law returns true; each argument reads behind the call as it read before'; 0 by the template 'total and deterministic' (their statements: YtpknondccajinaaTotals.lean).
  GIVEN WITH THE SEED: the statements are not yours to turn. If you find one false, say at which input.
  Laid BY PROGRAM, IN A SANDBOX (cutbox-rows.mjs): the forced cells as the released guide's own fill.sh prints them over the translation 7fe76b917c1d9c68… (all of the seat's roots in one cut). By AI agents, Wed Nov 11 2026. No macro, syntax, notation, axiom, sorry.
-/
import Derived.Test.YtpknondccajinaaChecked
import GoSem.Claim
import GoSem.ClaimJoined
import GoSem.ClaimMapViews
import Derived.JoinedTies
import Derived.KernelRfl
namespace Go.Proofs.Ytpknondccajinaa
/- THE CELL 'sum', in the pinned program and in every row, IS THE sha256 OF THE DUMP (.gsa) THAT YtpknondccajinaaProg.lean LOADS. Nothing in Lean hashes anything: it is a label: what it is worth is what the hold of that sum in a sandbox is worth. -/
noncomputable def Try.pinned : Pinned := { name := "ytpknondccajinaa", sum := "7fe76b917c1d9c68f6c01455b77639c3091a5138adc861d74014696187249777", checked := Try.checked }
namespace Rows
def none {H : Type} : Left H := { results := [], args := [] }

/-- 'laws.FnEchelon': WHATEVER THE INPUT: true; the input reads as it did. -/
def fnEchelonSpec : ChangeSpec := { name := "fnEchelon", fn := fun _ => fun
  | [d] => { results := [.lit (.bool true)], args := [d] }
  | _ => none }
def fnEchelonRow : OpenClaim := { program := "ytpknondccajinaa", sum := "7fe76b917c1d9c68f6c01455b77639c3091a5138adc861d74014696187249777", func := "loop.example/g03411/laws.FnEchelon", spec := "fnEchelon", unfollowed := true, recurses := true, apart := false }
def FnEchelonSaid : Prop := fnEchelonRow.holds Try.pinned (OpenSpec.ofChange fnEchelonSpec)

/-- ITS FALSE NEIGHBOUR: 'it returns false'. Refute it at one input. -/
def fnEchelonWrong : ChangeSpec := { name := "fnEchelon", fn := fun _ => fun
  | [d] => { results := [.lit (.bool false)], args := [d] }
  | _ => none }
def FnEchelonWrongFalsely : Prop := fnEchelonRow.holds Try.pinned (OpenSpec.ofChange fnEchelonWrong)

/-- 'laws.FnHermite': WHATEVER THE INPUT: true; the input reads as it did. -/
def fnHermiteSpec : ChangeSpec := { name := "fnHermite", fn := fun _ => fun
  | [d] => { results := [.lit (.bool true)], args := [d] }
  | _ => none }
def fnHermiteRow : OpenClaim := { program := "ytpknondccajinaa", sum := "7fe76b917c1d9c68f6c01455b77639c3091a5138adc861d74014696187249777", func := "loop.example/g03411/laws.FnHermite", spec := "fnHermite", unfollowed := true, recurses := true, apart := false }
def FnHermiteSaid : Prop := fnHermiteRow.holds Try.pinned (OpenSpec.ofChange fnHermiteSpec)

/-- ITS FALSE NEIGHBOUR: 'it returns false'. Refute it at one input. -/
def fnHermiteWrong : ChangeSpec := { name := "fnHermite", fn := fun _ => fun
  | [d] => { results := [.lit (.bool false)], args := [d] }
  | _ => none }
def FnHermiteWrongFalsely : Prop := fnHermiteRow.holds Try.pinned (OpenSpec.ofChange fnHermiteWrong)

/-- 'laws.FnExactIsEchelon': WHATEVER THE INPUT: true; the input reads as it did. -/
def fnExactIsEchelonSpec : ChangeSpec := { name := "fnExactIsEchelon", fn := fun _ => fun
  | [d] => { results := [.lit (.bool true)], args := [d] }
  | _ => none }
def fnExactIsEchelonRow : OpenClaim := { program := "ytpknondccajinaa", sum := "7fe76b917c1d9c68f6c01455b77639c3091a5138adc861d74014696187249777", func := "loop.example/g03411/laws.FnExactIsEchelon", spec := "fnExactIsEchelon", unfollowed := true, recurses := true, apart := false }
def FnExactIsEchelonSaid : Prop := fnExactIsEchelonRow.holds Try.pinned (OpenSpec.ofChange fnExactIsEchelonSpec)

/-- ITS FALSE NEIGHBOUR: 'it returns false'. Refute it at one input. -/
def fnExactIsEchelonWrong : ChangeSpec := { name := "fnExactIsEchelon", fn := fun _ => fun
  | [d] => { results := [.lit (.bool false)], args := [d] }
  | _ => none }
def FnExactIsEchelonWrongFalsely : Prop := fnExactIsEchelonRow.holds Try.pinned (OpenSpec.ofChange fnExactIsEchelonWrong)

/-- 'laws.FnExactHermiteForm': WHATEVER THE INPUT: true; the input reads as it did. -/
def fnExactHermiteFormSpec : ChangeSpec := { name := "fnExactHermiteForm", fn := fun _ => fun
  | [d] => { results := [.lit (.bool true)], args := [d] }
  | _ => none }
def fnExactHermiteFormRow : OpenClaim := { program := "ytpknondccajinaa", sum := "7fe76b917c1d9c68f6c01455b77639c3091a5138adc861d74014696187249777", func := "loop.example/g03411/laws.FnExactHermiteForm", spec := "fnExactHermiteForm", unfollowed := true, recurses := true, apart := false }
def FnExactHermiteFormSaid : Prop := fnExactHermiteFormRow.holds Try.pinned (OpenSpec.ofChange fnExactHermiteFormSpec)

/-- ITS FALSE NEIGHBOUR: 'it returns false'. Refute it at one input. -/
def fnExactHermiteFormWrong : ChangeSpec := { name := "fnExactHermiteForm", fn := fun _ => fun
  | [d] => { results := [.lit (.bool false)], args := [d] }
  | _ => none }
def FnExactHermiteFormWrongFalsely : Prop := fnExactHermiteFormRow.holds Try.pinned (OpenSpec.ofChange fnExactHermiteFormWrong)

/-- 'laws.FnExactIsHermite': WHATEVER THE INPUT: true; the input reads as it did. -/
def fnExactIsHermiteSpec : ChangeSpec := { name := "fnExactIsHermite", fn := fun _ => fun
  | [d] => { results := [.lit (.bool true)], args := [d] }
  | _ => none }
def fnExactIsHermiteRow : OpenClaim := { program := "ytpknondccajinaa", sum := "7fe76b917c1d9c68f6c01455b77639c3091a5138adc861d74014696187249777", func := "loop.example/g03411/laws.FnExactIsHermite", spec := "fnExactIsHermite", unfollowed := true, recurses := true, apart := false }
def FnExactIsHermiteSaid : Prop := fnExactIsHermiteRow.holds Try.pinned (OpenSpec.ofChange fnExactIsHermiteSpec)

/-- ITS FALSE NEIGHBOUR: 'it returns false'. Refute it at one input. -/
def fnExactIsHermiteWrong : ChangeSpec := { name := "fnExactIsHermite", fn := fun _ => fun
  | [d] => { results := [.lit (.bool false)], args := [d] }
  | _ => none }
def FnExactIsHermiteWrongFalsely : Prop := fnExactIsHermiteRow.holds Try.pinned (OpenSpec.ofChange fnExactIsHermiteWrong)

/-- 'laws.FnExactBasisOf': WHATEVER THE INPUT: true; the input reads as it did. -/
def fnExactBasisOfSpec : ChangeSpec := { name := "fnExactBasisOf", fn := fun _ => fun
  | [d] => { results := [.lit (.bool true)], args := [d] }
  | _ => none }
def fnExactBasisOfRow : OpenClaim := { program := "ytpknondccajinaa", sum := "7fe76b917c1d9c68f6c01455b77639c3091a5138adc861d74014696187249777", func := "loop.example/g03411/laws.FnExactBasisOf", spec := "fnExactBasisOf", unfollowed := true, recurses := true, apart := false }
def FnExactBasisOfSaid : Prop := fnExactBasisOfRow.holds Try.pinned (OpenSpec.ofChange fnExactBasisOfSpec)

/-- ITS FALSE NEIGHBOUR: 'it returns false'. Refute it at one input. -/
def fnExactBasisOfWrong : ChangeSpec := { name := "fnExactBasisOf", fn := fun _ => fun
  | [d] => { results := [.lit (.bool false)], args := [d] }
  | _ => none }
def FnExactBasisOfWrongFalsely : Prop := fnExactBasisOfRow.holds Try.pinned (OpenSpec.ofChange fnExactBasisOfWrong)

/- THE SECOND FORM. 'bulk': how many values and letters a reading holds, each counted each time it is reached (what is shared counts as often as it is met; a slice's spare places count too). A statement '..UptoSaid' is the law's where the arguments, and the package variables that the reading takes, are together of bulk at most 1048576: NARROWER than '..Said'. Prove '..Said' where nothing that the law and all that it calls make is longer than what came in: it says more and counts as full. Else prove '..UptoSaid'. A law counts once. -/
mutual
def uptoBulk {H : Type} : DataW H → Nat
  | .lit (.string bytes) => bytes.length + 1
  | .lit _ => 1
  | .nil => 1
  | .ptr d => uptoBulk d + 1
  | .slice elems spare => uptoBulkAll elems + uptoBulkAll spare + 1
  | .agg parts => uptoBulkAll parts + 1
  | .iface _ d => uptoBulk d + 1
  | .map entries => uptoBulkEntries entries + 1
  | .held _ => 1
def uptoBulkAll {H : Type} : List (DataW H) → Nat
  | [] => 0
  | d :: r => uptoBulk d + uptoBulkAll r
def uptoBulkEntries {H : Type} : List (Lit × DataW H) → Nat
  | [] => 0
  | x :: r => uptoBulkEntry x + uptoBulkEntries r
def uptoBulkEntry {H : Type} : Lit × DataW H → Nat
  | (.string bytes, d) => bytes.length + uptoBulk d + 1
  | (_, d) => uptoBulk d + 1
 end
def uptoSmall : (H : Type) → List (DataW H) → Bool := fun _ ds => decide (uptoBulkAll ds ≤ 1048576)
def OpenSpec.upto (s : _root_.Go.ChangeSpec) : _root_.Go.OpenSpec := { _root_.Go.OpenSpec.ofChange s with cond := some uptoSmall }

/-- 'laws.FnEchelon', WHERE WHAT IT READS IS OF BULK AT MOST 1048576: true; the input reads as it did. -/
def fnEchelonUptoRow : OpenClaim := { program := "ytpknondccajinaa", sum := "7fe76b917c1d9c68f6c01455b77639c3091a5138adc861d74014696187249777", func := "loop.example/g03411/laws.FnEchelon", spec := "fnEchelon", unfollowed := true, recurses := true, apart := false, narrowed := true }
def FnEchelonUptoSaid : Prop := fnEchelonUptoRow.holds Try.pinned (OpenSpec.upto fnEchelonSpec)

/-- 'laws.FnHermite', WHERE WHAT IT READS IS OF BULK AT MOST 1048576: true; the input reads as it did. -/
def fnHermiteUptoRow : OpenClaim := { program := "ytpknondccajinaa", sum := "7fe76b917c1d9c68f6c01455b77639c3091a5138adc861d74014696187249777", func := "loop.example/g03411/laws.FnHermite", spec := "fnHermite", unfollowed := true, recurses := true, apart := false, narrowed := true }
def FnHermiteUptoSaid : Prop := fnHermiteUptoRow.holds Try.pinned (OpenSpec.upto fnHermiteSpec)

/-- 'laws.FnExactIsEchelon', WHERE WHAT IT READS IS OF BULK AT MOST 1048576: true; the input reads as it did. -/
def fnExactIsEchelonUptoRow : OpenClaim := { program := "ytpknondccajinaa", sum := "7fe76b917c1d9c68f6c01455b77639c3091a5138adc861d74014696187249777", func := "loop.example/g03411/laws.FnExactIsEchelon", spec := "fnExactIsEchelon", unfollowed := true, recurses := true, apart := false, narrowed := true }
def FnExactIsEchelonUptoSaid : Prop := fnExactIsEchelonUptoRow.holds Try.pinned (OpenSpec.upto fnExactIsEchelonSpec)

/-- 'laws.FnExactHermiteForm', WHERE WHAT IT READS IS OF BULK AT MOST 1048576: true; the input reads as it did. -/
def fnExactHermiteFormUptoRow : OpenClaim := { program := "ytpknondccajinaa", sum := "7fe76b917c1d9c68f6c01455b77639c3091a5138adc861d74014696187249777", func := "loop.example/g03411/laws.FnExactHermiteForm", spec := "fnExactHermiteForm", unfollowed := true, recurses := true, apart := false, narrowed := true }
def FnExactHermiteFormUptoSaid : Prop := fnExactHermiteFormUptoRow.holds Try.pinned (OpenSpec.upto fnExactHermiteFormSpec)

/-- 'laws.FnExactIsHermite', WHERE WHAT IT READS IS OF BULK AT MOST 1048576: true; the input reads as it did. -/
def fnExactIsHermiteUptoRow : OpenClaim := { program := "ytpknondccajinaa", sum := "7fe76b917c1d9c68f6c01455b77639c3091a5138adc861d74014696187249777", func := "loop.example/g03411/laws.FnExactIsHermite", spec := "fnExactIsHermite", unfollowed := true, recurses := true, apart := false, narrowed := true }
def FnExactIsHermiteUptoSaid : Prop := fnExactIsHermiteUptoRow.holds Try.pinned (OpenSpec.upto fnExactIsHermiteSpec)

/-- 'laws.FnExactBasisOf', WHERE WHAT IT READS IS OF BULK AT MOST 1048576: true; the input reads as it did. -/
def fnExactBasisOfUptoRow : OpenClaim := { program := "ytpknondccajinaa", sum := "7fe76b917c1d9c68f6c01455b77639c3091a5138adc861d74014696187249777", func := "loop.example/g03411/laws.FnExactBasisOf", spec := "fnExactBasisOf", unfollowed := true, recurses := true, apart := false, narrowed := true }
def FnExactBasisOfUptoSaid : Prop := fnExactBasisOfUptoRow.holds Try.pinned (OpenSpec.upto fnExactBasisOfSpec)

end Rows
end Go.Proofs.Ytpknondccajinaa
