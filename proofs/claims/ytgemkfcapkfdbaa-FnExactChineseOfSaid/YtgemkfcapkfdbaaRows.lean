/-
  No cell of these rows narrows 'for every input' (looked for: loops, veiled, ifaces, maps, wideKeys, modest, calm, conditions, laid).
  DERIVED. THE GIVEN ROWS OF THIS SEAT. 7 by the template 'for every input the law returns true; each argument reads behind the call as it read before'; 0 by the template 'total and deterministic' (their statements: YtgemkfcapkfdbaaTotals.lean).
  GIVEN WITH THE SEED: the statements are not yours to turn. If you find one false, say at which input.
  Laid BY PROGRAM, IN A SANDBOX (cutbox-rows.mjs): the forced cells as the released guide's own fill.sh prints them over the translation 4521ca9ed0986656… (all of the seat's roots in one cut). By AI agents, Wed Nov 11 2026. No macro, syntax, notation, axiom, sorry.
-/
import Derived.Test.YtgemkfcapkfdbaaChecked
import GoSem.Claim
import GoSem.ClaimJoined
import GoSem.ClaimMapViews
import Derived.JoinedTies
import Derived.KernelRfl
namespace Go.Proofs.Ytgemkfcapkfdbaa
/- THE CELL 'sum', in the pinned program and in every row, IS THE sha256 OF THE DUMP (.gsa) THAT YtgemkfcapkfdbaaProg.lean LOADS. Nothing in Lean hashes anything: it is a label: what it is worth is what the hold of that sum in a sandbox is worth. -/
noncomputable def Try.pinned : Pinned := { name := "ytgemkfcapkfdbaa", sum := "4521ca9ed098665672bfa6fd9f13aa17a8bf1cfde1b5bee15ebd8207fc1e32aa", checked := Try.checked }
namespace Rows
def none {H : Type} : Left H := { results := [], args := [] }

/-- 'laws.FnChinese': WHATEVER THE INPUT: true; the input reads as it did. -/
def fnChineseSpec : ChangeSpec := { name := "fnChinese", fn := fun _ => fun
  | [d] => { results := [.lit (.bool true)], args := [d] }
  | _ => none }
def fnChineseRow : OpenClaim := { program := "ytgemkfcapkfdbaa", sum := "4521ca9ed098665672bfa6fd9f13aa17a8bf1cfde1b5bee15ebd8207fc1e32aa", func := "loop.example/g03411/laws.FnChinese", spec := "fnChinese", apart := false }
def FnChineseSaid : Prop := fnChineseRow.holds Try.pinned (OpenSpec.ofChange fnChineseSpec)

/-- ITS FALSE NEIGHBOUR: 'it returns false'. Refute it at one input. -/
def fnChineseWrong : ChangeSpec := { name := "fnChinese", fn := fun _ => fun
  | [d] => { results := [.lit (.bool false)], args := [d] }
  | _ => none }
def FnChineseWrongFalsely : Prop := fnChineseRow.holds Try.pinned (OpenSpec.ofChange fnChineseWrong)

/-- 'laws.FnThreeRoads': WHATEVER THE INPUT: true; the input reads as it did. -/
def fnThreeRoadsSpec : ChangeSpec := { name := "fnThreeRoads", fn := fun _ => fun
  | [d] => { results := [.lit (.bool true)], args := [d] }
  | _ => none }
def fnThreeRoadsRow : OpenClaim := { program := "ytgemkfcapkfdbaa", sum := "4521ca9ed098665672bfa6fd9f13aa17a8bf1cfde1b5bee15ebd8207fc1e32aa", func := "loop.example/g03411/laws.FnThreeRoads", spec := "fnThreeRoads", unfollowed := true, recurses := true, apart := false }
def FnThreeRoadsSaid : Prop := fnThreeRoadsRow.holds Try.pinned (OpenSpec.ofChange fnThreeRoadsSpec)

/-- ITS FALSE NEIGHBOUR: 'it returns false'. Refute it at one input. -/
def fnThreeRoadsWrong : ChangeSpec := { name := "fnThreeRoads", fn := fun _ => fun
  | [d] => { results := [.lit (.bool false)], args := [d] }
  | _ => none }
def FnThreeRoadsWrongFalsely : Prop := fnThreeRoadsRow.holds Try.pinned (OpenSpec.ofChange fnThreeRoadsWrong)

/-- 'laws.FnExactAreModuli': WHATEVER THE INPUT: true; the input reads as it did. -/
def fnExactAreModuliSpec : ChangeSpec := { name := "fnExactAreModuli", fn := fun _ => fun
  | [d] => { results := [.lit (.bool true)], args := [d] }
  | _ => none }
def fnExactAreModuliRow : OpenClaim := { program := "ytgemkfcapkfdbaa", sum := "4521ca9ed098665672bfa6fd9f13aa17a8bf1cfde1b5bee15ebd8207fc1e32aa", func := "loop.example/g03411/laws.FnExactAreModuli", spec := "fnExactAreModuli", apart := false }
def FnExactAreModuliSaid : Prop := fnExactAreModuliRow.holds Try.pinned (OpenSpec.ofChange fnExactAreModuliSpec)

/-- ITS FALSE NEIGHBOUR: 'it returns false'. Refute it at one input. -/
def fnExactAreModuliWrong : ChangeSpec := { name := "fnExactAreModuli", fn := fun _ => fun
  | [d] => { results := [.lit (.bool false)], args := [d] }
  | _ => none }
def FnExactAreModuliWrongFalsely : Prop := fnExactAreModuliRow.holds Try.pinned (OpenSpec.ofChange fnExactAreModuliWrong)

/-- 'laws.FnExactChineseOf': WHATEVER THE INPUT: true; the input reads as it did. -/
def fnExactChineseOfSpec : ChangeSpec := { name := "fnExactChineseOf", fn := fun _ => fun
  | [d1, d2] => { results := [.lit (.bool true)], args := [d1, d2] }
  | _ => none }
def fnExactChineseOfRow : OpenClaim := { program := "ytgemkfcapkfdbaa", sum := "4521ca9ed098665672bfa6fd9f13aa17a8bf1cfde1b5bee15ebd8207fc1e32aa", func := "loop.example/g03411/laws.FnExactChineseOf", spec := "fnExactChineseOf", apart := false }
def FnExactChineseOfSaid : Prop := fnExactChineseOfRow.holds Try.pinned (OpenSpec.ofChange fnExactChineseOfSpec)

/-- ITS FALSE NEIGHBOUR: 'it returns false'. Refute it at one input. -/
def fnExactChineseOfWrong : ChangeSpec := { name := "fnExactChineseOf", fn := fun _ => fun
  | [d1, d2] => { results := [.lit (.bool false)], args := [d1, d2] }
  | _ => none }
def FnExactChineseOfWrongFalsely : Prop := fnExactChineseOfRow.holds Try.pinned (OpenSpec.ofChange fnExactChineseOfWrong)

/-- 'laws.FnExactSymmetricOf': WHATEVER THE INPUT: true; the input reads as it did. -/
def fnExactSymmetricOfSpec : ChangeSpec := { name := "fnExactSymmetricOf", fn := fun _ => fun
  | [d1, d2] => { results := [.lit (.bool true)], args := [d1, d2] }
  | _ => none }
def fnExactSymmetricOfRow : OpenClaim := { program := "ytgemkfcapkfdbaa", sum := "4521ca9ed098665672bfa6fd9f13aa17a8bf1cfde1b5bee15ebd8207fc1e32aa", func := "loop.example/g03411/laws.FnExactSymmetricOf", spec := "fnExactSymmetricOf", apart := false }
def FnExactSymmetricOfSaid : Prop := fnExactSymmetricOfRow.holds Try.pinned (OpenSpec.ofChange fnExactSymmetricOfSpec)

/-- ITS FALSE NEIGHBOUR: 'it returns false'. Refute it at one input. -/
def fnExactSymmetricOfWrong : ChangeSpec := { name := "fnExactSymmetricOf", fn := fun _ => fun
  | [d1, d2] => { results := [.lit (.bool false)], args := [d1, d2] }
  | _ => none }
def FnExactSymmetricOfWrongFalsely : Prop := fnExactSymmetricOfRow.holds Try.pinned (OpenSpec.ofChange fnExactSymmetricOfWrong)

/-- 'laws.FnExactRowBound': WHATEVER THE INPUT: true; the input reads as it did. -/
def fnExactRowBoundSpec : ChangeSpec := { name := "fnExactRowBound", fn := fun _ => fun
  | [d] => { results := [.lit (.bool true)], args := [d] }
  | _ => none }
def fnExactRowBoundRow : OpenClaim := { program := "ytgemkfcapkfdbaa", sum := "4521ca9ed098665672bfa6fd9f13aa17a8bf1cfde1b5bee15ebd8207fc1e32aa", func := "loop.example/g03411/laws.FnExactRowBound", spec := "fnExactRowBound", unfollowed := true, recurses := true, apart := false }
def FnExactRowBoundSaid : Prop := fnExactRowBoundRow.holds Try.pinned (OpenSpec.ofChange fnExactRowBoundSpec)

/-- ITS FALSE NEIGHBOUR: 'it returns false'. Refute it at one input. -/
def fnExactRowBoundWrong : ChangeSpec := { name := "fnExactRowBound", fn := fun _ => fun
  | [d] => { results := [.lit (.bool false)], args := [d] }
  | _ => none }
def FnExactRowBoundWrongFalsely : Prop := fnExactRowBoundRow.holds Try.pinned (OpenSpec.ofChange fnExactRowBoundWrong)

/-- 'laws.FnExactDeterminantByImages': WHATEVER THE INPUT: true; the input reads as it did. -/
def fnExactDeterminantByImagesSpec : ChangeSpec := { name := "fnExactDeterminantByImages", fn := fun _ => fun
  | [d] => { results := [.lit (.bool true)], args := [d] }
  | _ => none }
def fnExactDeterminantByImagesRow : OpenClaim := { program := "ytgemkfcapkfdbaa", sum := "4521ca9ed098665672bfa6fd9f13aa17a8bf1cfde1b5bee15ebd8207fc1e32aa", func := "loop.example/g03411/laws.FnExactDeterminantByImages", spec := "fnExactDeterminantByImages", unfollowed := true, recurses := true, apart := false }
def FnExactDeterminantByImagesSaid : Prop := fnExactDeterminantByImagesRow.holds Try.pinned (OpenSpec.ofChange fnExactDeterminantByImagesSpec)

/-- ITS FALSE NEIGHBOUR: 'it returns false'. Refute it at one input. -/
def fnExactDeterminantByImagesWrong : ChangeSpec := { name := "fnExactDeterminantByImages", fn := fun _ => fun
  | [d] => { results := [.lit (.bool false)], args := [d] }
  | _ => none }
def FnExactDeterminantByImagesWrongFalsely : Prop := fnExactDeterminantByImagesRow.holds Try.pinned (OpenSpec.ofChange fnExactDeterminantByImagesWrong)

/- THE SECOND FORM. 'bulk': how many values and letters a reading holds, each counted each time it is reached (what is shared counts as often as it is met; a slice's spare places count too). A statement '..UptoSaid' is the law's where the arguments, and the package variables that the reading takes, are together of bulk at most 1048576: NARROWER than '..Said'. Prove '..Said' where nothing that the law and all that it calls make is longer than what came in: it says more and counts as full. Else prove '..UptoSaid'. A law counts once. -/
mutual
def uptoBulk {H : Type} : DataW H → Nat
  | .lit (.string bytes) => bytes.length + 1
  | .lit _ => 1
  | .nil => 1
  | .ptr d => uptoBulk d + 1
  | .slice elems spare => uptoBulkAll elems + uptoBulkAll spare + 1
  | .agg parts => uptoBulkAll parts + 1
  | .iface _ d => uptoBulk d + 1
  | .map entries => uptoBulkEntries entries + 1
  | .held _ => 1
def uptoBulkAll {H : Type} : List (DataW H) → Nat
  | [] => 0
  | d :: r => uptoBulk d + uptoBulkAll r
def uptoBulkEntries {H : Type} : List (Lit × DataW H) → Nat
  | [] => 0
  | x :: r => uptoBulkEntry x + uptoBulkEntries r
def uptoBulkEntry {H : Type} : Lit × DataW H → Nat
  | (.string bytes, d) => bytes.length + uptoBulk d + 1
  | (_, d) => uptoBulk d + 1
 end
def uptoSmall : (H : Type) → List (DataW H) → Bool := fun _ ds => decide (uptoBulkAll ds ≤ 1048576)
def OpenSpec.upto (s : _root_.Go.ChangeSpec) : _root_.Go.OpenSpec := { _root_.Go.OpenSpec.ofChange s with cond := some uptoSmall }

/-- 'laws.FnChinese', WHERE WHAT IT READS IS OF BULK AT MOST 1048576: true; the input reads as it did. -/
def fnChineseUptoRow : OpenClaim := { program := "ytgemkfcapkfdbaa", sum := "4521ca9ed098665672bfa6fd9f13aa17a8bf1cfde1b5bee15ebd8207fc1e32aa", func := "loop.example/g03411/laws.FnChinese", spec := "fnChinese", apart := false, narrowed := true }
def FnChineseUptoSaid : Prop := fnChineseUptoRow.holds Try.pinned (OpenSpec.upto fnChineseSpec)

/-- 'laws.FnThreeRoads', WHERE WHAT IT READS IS OF BULK AT MOST 1048576: true; the input reads as it did. -/
def fnThreeRoadsUptoRow : OpenClaim := { program := "ytgemkfcapkfdbaa", sum := "4521ca9ed098665672bfa6fd9f13aa17a8bf1cfde1b5bee15ebd8207fc1e32aa", func := "loop.example/g03411/laws.FnThreeRoads", spec := "fnThreeRoads", unfollowed := true, recurses := true, apart := false, narrowed := true }
def FnThreeRoadsUptoSaid : Prop := fnThreeRoadsUptoRow.holds Try.pinned (OpenSpec.upto fnThreeRoadsSpec)

/-- 'laws.FnExactAreModuli', WHERE WHAT IT READS IS OF BULK AT MOST 1048576: true; the input reads as it did. -/
def fnExactAreModuliUptoRow : OpenClaim := { program := "ytgemkfcapkfdbaa", sum := "4521ca9ed098665672bfa6fd9f13aa17a8bf1cfde1b5bee15ebd8207fc1e32aa", func := "loop.example/g03411/laws.FnExactAreModuli", spec := "fnExactAreModuli", apart := false, narrowed := true }
def FnExactAreModuliUptoSaid : Prop := fnExactAreModuliUptoRow.holds Try.pinned (OpenSpec.upto fnExactAreModuliSpec)

/-- 'laws.FnExactChineseOf', WHERE WHAT IT READS IS OF BULK AT MOST 1048576: true; the input reads as it did. -/
def fnExactChineseOfUptoRow : OpenClaim := { program := "ytgemkfcapkfdbaa", sum := "4521ca9ed098665672bfa6fd9f13aa17a8bf1cfde1b5bee15ebd8207fc1e32aa", func := "loop.example/g03411/laws.FnExactChineseOf", spec := "fnExactChineseOf", apart := false, narrowed := true }
def FnExactChineseOfUptoSaid : Prop := fnExactChineseOfUptoRow.holds Try.pinned (OpenSpec.upto fnExactChineseOfSpec)

/-- 'laws.FnExactSymmetricOf', WHERE WHAT IT READS IS OF BULK AT MOST 1048576: true; the input reads as it did. -/
def fnExactSymmetricOfUptoRow : OpenClaim := { program := "ytgemkfcapkfdbaa", sum := "4521ca9ed098665672bfa6fd9f13aa17a8bf1cfde1b5bee15ebd8207fc1e32aa", func := "loop.example/g03411/laws.FnExactSymmetricOf", spec := "fnExactSymmetricOf", apart := false, narrowed := true }
def FnExactSymmetricOfUptoSaid : Prop := fnExactSymmetricOfUptoRow.holds Try.pinned (OpenSpec.upto fnExactSymmetricOfSpec)

/-- 'laws.FnExactRowBound', WHERE WHAT IT READS IS OF BULK AT MOST 1048576: true; the input reads as it did. -/
def fnExactRowBoundUptoRow : OpenClaim := { program := "ytgemkfcapkfdbaa", sum := "4521ca9ed098665672bfa6fd9f13aa17a8bf1cfde1b5bee15ebd8207fc1e32aa", func := "loop.example/g03411/laws.FnExactRowBound", spec := "fnExactRowBound", unfollowed := true, recurses := true, apart := false, narrowed := true }
def FnExactRowBoundUptoSaid : Prop := fnExactRowBoundUptoRow.holds Try.pinned (OpenSpec.upto fnExactRowBoundSpec)

/-- 'laws.FnExactDeterminantByImages', WHERE WHAT IT READS IS OF BULK AT MOST 1048576: true; the input reads as it did. -/
def fnExactDeterminantByImagesUptoRow : OpenClaim := { program := "ytgemkfcapkfdbaa", sum := "4521ca9ed098665672bfa6fd9f13aa17a8bf1cfde1b5bee15ebd8207fc1e32aa", func := "loop.example/g03411/laws.FnExactDeterminantByImages", spec := "fnExactDeterminantByImages", unfollowed := true, recurses := true, apart := false, narrowed := true }
def FnExactDeterminantByImagesUptoSaid : Prop := fnExactDeterminantByImagesUptoRow.holds Try.pinned (OpenSpec.upto fnExactDeterminantByImagesSpec)

end Rows
end Go.Proofs.Ytgemkfcapkfdbaa
