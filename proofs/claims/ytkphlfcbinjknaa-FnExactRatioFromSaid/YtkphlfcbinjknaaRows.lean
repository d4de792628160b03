/-
  No cell of these rows narrows 'for every input' (looked for: loops, veiled, ifaces, maps, wideKeys, modest, calm, conditions, laid).
  DERIVED. THE GIVEN ROWS OF THIS SEAT. 4 by the template 'for every input the law returns true; each argument reads behind the call as it read before'; 0 by the template 'total and deterministic' (their statements: YtkphlfcbinjknaaTotals.lean).
  GIVEN WITH THE SEED: the statements are not yours to turn. If you find one false, say at which input.
  Laid BY PROGRAM, IN A SANDBOX (cutbox-rows.mjs): the forced cells as the released guide's own fill.sh prints them over the translation 056d145446ba873e… (all of the seat's roots in one cut). By AI agents, Wed Nov 11 2026. No macro, syntax, notation, axiom, sorry.
-/
import Derived.Test.YtkphlfcbinjknaaChecked
import GoSem.Claim
import GoSem.ClaimJoined
import GoSem.ClaimMapViews
import Derived.JoinedTies
import Derived.KernelRfl
namespace Go.Proofs.Ytkphlfcbinjknaa
/- THE CELL 'sum', in the pinned program and in every row, IS THE sha256 OF THE DUMP (.gsa) THAT YtkphlfcbinjknaaProg.lean LOADS. Nothing in Lean hashes anything: it is a label: what it is worth is what the hold of that sum in a sandbox is worth. -/
noncomputable def Try.pinned : Pinned := { name := "ytkphlfcbinjknaa", sum := "056d145446ba873e9ea2160dc8dbd57b2f12a828d4401a788bd3018567b481c9", checked := Try.checked }
namespace Rows
def none {H : Type} : Left H := { results := [], args := [] }

/-- 'laws.FnReconstruct': WHATEVER THE INPUT: true; the input reads as it did. -/
def fnReconstructSpec : ChangeSpec := { name := "fnReconstruct", fn := fun _ => fun
  | [d] => { results := [.lit (.bool true)], args := [d] }
  | _ => none }
def fnReconstructRow : OpenClaim := { program := "ytkphlfcbinjknaa", sum := "056d145446ba873e9ea2160dc8dbd57b2f12a828d4401a788bd3018567b481c9", func := "loop.example/g03411/laws.FnReconstruct", spec := "fnReconstruct", apart := false }
def FnReconstructSaid : Prop := fnReconstructRow.holds Try.pinned (OpenSpec.ofChange fnReconstructSpec)

/-- ITS FALSE NEIGHBOUR: 'it returns false'. Refute it at one input. -/
def fnReconstructWrong : ChangeSpec := { name := "fnReconstruct", fn := fun _ => fun
  | [d] => { results := [.lit (.bool false)], args := [d] }
  | _ => none }
def FnReconstructWrongFalsely : Prop := fnReconstructRow.holds Try.pinned (OpenSpec.ofChange fnReconstructWrong)

/-- 'laws.FnExactIsImage': WHATEVER THE INPUT: true; the input reads as it did. -/
def fnExactIsImageSpec : ChangeSpec := { name := "fnExactIsImage", fn := fun _ => fun
  | [d1, d2, d3] => { results := [.lit (.bool true)], args := [d1, d2, d3] }
  | _ => none }
def fnExactIsImageRow : OpenClaim := { program := "ytkphlfcbinjknaa", sum := "056d145446ba873e9ea2160dc8dbd57b2f12a828d4401a788bd3018567b481c9", func := "loop.example/g03411/laws.FnExactIsImage", spec := "fnExactIsImage", apart := false }
def FnExactIsImageSaid : Prop := fnExactIsImageRow.holds Try.pinned (OpenSpec.ofChange fnExactIsImageSpec)

/-- ITS FALSE NEIGHBOUR: 'it returns false'. Refute it at one input. -/
def fnExactIsImageWrong : ChangeSpec := { name := "fnExactIsImage", fn := fun _ => fun
  | [d1, d2, d3] => { results := [.lit (.bool false)], args := [d1, d2, d3] }
  | _ => none }
def FnExactIsImageWrongFalsely : Prop := fnExactIsImageRow.holds Try.pinned (OpenSpec.ofChange fnExactIsImageWrong)

/-- 'laws.FnExactResidueOf': WHATEVER THE INPUT: true; the input reads as it did. -/
def fnExactResidueOfSpec : ChangeSpec := { name := "fnExactResidueOf", fn := fun _ => fun
  | [d1, d2] => { results := [.lit (.bool true)], args := [d1, d2] }
  | _ => none }
def fnExactResidueOfRow : OpenClaim := { program := "ytkphlfcbinjknaa", sum := "056d145446ba873e9ea2160dc8dbd57b2f12a828d4401a788bd3018567b481c9", func := "loop.example/g03411/laws.FnExactResidueOf", spec := "fnExactResidueOf", apart := false }
def FnExactResidueOfSaid : Prop := fnExactResidueOfRow.holds Try.pinned (OpenSpec.ofChange fnExactResidueOfSpec)

/-- ITS FALSE NEIGHBOUR: 'it returns false'. Refute it at one input. -/
def fnExactResidueOfWrong : ChangeSpec := { name := "fnExactResidueOf", fn := fun _ => fun
  | [d1, d2] => { results := [.lit (.bool false)], args := [d1, d2] }
  | _ => none }
def FnExactResidueOfWrongFalsely : Prop := fnExactResidueOfRow.holds Try.pinned (OpenSpec.ofChange fnExactResidueOfWrong)

/-- 'laws.FnExactRatioFrom': WHATEVER THE INPUT: true; the input reads as it did. -/
def fnExactRatioFromSpec : ChangeSpec := { name := "fnExactRatioFrom", fn := fun _ => fun
  | [d1, d2, d3] => { results := [.lit (.bool true)], args := [d1, d2, d3] }
  | _ => none }
def fnExactRatioFromRow : OpenClaim := { program := "ytkphlfcbinjknaa", sum := "056d145446ba873e9ea2160dc8dbd57b2f12a828d4401a788bd3018567b481c9", func := "loop.example/g03411/laws.FnExactRatioFrom", spec := "fnExactRatioFrom", apart := false }
def FnExactRatioFromSaid : Prop := fnExactRatioFromRow.holds Try.pinned (OpenSpec.ofChange fnExactRatioFromSpec)

/-- ITS FALSE NEIGHBOUR: 'it returns false'. Refute it at one input. -/
def fnExactRatioFromWrong : ChangeSpec := { name := "fnExactRatioFrom", fn := fun _ => fun
  | [d1, d2, d3] => { results := [.lit (.bool false)], args := [d1, d2, d3] }
  | _ => none }
def FnExactRatioFromWrongFalsely : Prop := fnExactRatioFromRow.holds Try.pinned (OpenSpec.ofChange fnExactRatioFromWrong)

/- THE SECOND FORM. 'bulk': how many values and letters a reading holds, each counted each time it is reached (what is shared counts as often as it is met; a slice's spare places count too). A statement '..UptoSaid' is the law's where the arguments, and the package variables that the reading takes, are together of bulk at most 1048576: NARROWER than '..Said'. Prove '..Said' where nothing that the law and all that it calls make is longer than what came in: it says more and counts as full. Else prove '..UptoSaid'. A law counts once. -/
mutual
def uptoBulk {H : Type} : DataW H → Nat
  | .lit (.string bytes) => bytes.length + 1
  | .lit _ => 1
  | .nil => 1
  | .ptr d => uptoBulk d + 1
  | .slice elems spare => uptoBulkAll elems + uptoBulkAll spare + 1
  | .agg parts => uptoBulkAll parts + 1
  | .iface _ d => uptoBulk d + 1
  | .map entries => uptoBulkEntries entries + 1
  | .held _ => 1
def uptoBulkAll {H : Type} : List (DataW H) → Nat
  | [] => 0
  | d :: r => uptoBulk d + uptoBulkAll r
def uptoBulkEntries {H : Type} : List (Lit × DataW H) → Nat
  | [] => 0
  | x :: r => uptoBulkEntry x + uptoBulkEntries r
def uptoBulkEntry {H : Type} : Lit × DataW H → Nat
  | (.string bytes, d) => bytes.length + uptoBulk d + 1
  | (_, d) => uptoBulk d + 1
 end
def uptoSmall : (H : Type) → List (DataW H) → Bool := fun _ ds => decide (uptoBulkAll ds ≤ 1048576)
def OpenSpec.upto (s : _root_.Go.ChangeSpec) : _root_.Go.OpenSpec := { _root_.Go.OpenSpec.ofChange s with cond := some uptoSmall }

/-- 'laws.FnReconstruct', WHERE WHAT IT READS IS OF BULK AT MOST 1048576: true; the input reads as it did. -/
def fnReconstructUptoRow : OpenClaim := { program := "ytkphlfcbinjknaa", sum := "056d145446ba873e9ea2160dc8dbd57b2f12a828d4401a788bd3018567b481c9", func := "loop.example/g03411/laws.FnReconstruct", spec := "fnReconstruct", apart := false, narrowed := true }
def FnReconstructUptoSaid : Prop := fnReconstructUptoRow.holds Try.pinned (OpenSpec.upto fnReconstructSpec)

/-- 'laws.FnExactIsImage', WHERE WHAT IT READS IS OF BULK AT MOST 1048576: true; the input reads as it did. -/
def fnExactIsImageUptoRow : OpenClaim := { program := "ytkphlfcbinjknaa", sum := "056d145446ba873e9ea2160dc8dbd57b2f12a828d4401a788bd3018567b481c9", func := "loop.example/g03411/laws.FnExactIsImage", spec := "fnExactIsImage", apart := false, narrowed := true }
def FnExactIsImageUptoSaid : Prop := fnExactIsImageUptoRow.holds Try.pinned (OpenSpec.upto fnExactIsImageSpec)

/-- 'laws.FnExactResidueOf', WHERE WHAT IT READS IS OF BULK AT MOST 1048576: true; the input reads as it did. -/
def fnExactResidueOfUptoRow : OpenClaim := { program := "ytkphlfcbinjknaa", sum := "056d145446ba873e9ea2160dc8dbd57b2f12a828d4401a788bd3018567b481c9", func := "loop.example/g03411/laws.FnExactResidueOf", spec := "fnExactResidueOf", apart := false, narrowed := true }
def FnExactResidueOfUptoSaid : Prop := fnExactResidueOfUptoRow.holds Try.pinned (OpenSpec.upto fnExactResidueOfSpec)

/-- 'laws.FnExactRatioFrom', WHERE WHAT IT READS IS OF BULK AT MOST 1048576: true; the input reads as it did. -/
def fnExactRatioFromUptoRow : OpenClaim := { program := "ytkphlfcbinjknaa", sum := "056d145446ba873e9ea2160dc8dbd57b2f12a828d4401a788bd3018567b481c9", func := "loop.example/g03411/laws.FnExactRatioFrom", spec := "fnExactRatioFrom", apart := false, narrowed := true }
def FnExactRatioFromUptoSaid : Prop := fnExactRatioFromUptoRow.holds Try.pinned (OpenSpec.upto fnExactRatioFromSpec)

end Rows
end Go.Proofs.Ytkphlfcbinjknaa
