/-
  No cell of these rows narrows 'for every input' (looked for: loops, veiled, ifaces, maps, wideKeys, modest, calm, conditions, laid).
  DERIVED. THE GIVEN ROWS OF THIS SEAT. 5 by the template 'for every input the law returns true; each argument reads behind the call as it read before'; 0 by the template 'total and deterministic' (their statements: YtcjbgnfjacdnnaaTotals.lean).
  GIVEN WITH THE SEED: the statements are not yours to turn. If you find one false, say at which input.
  Laid BY PROGRAM, IN A SANDBOX (cutbox-rows.mjs): the forced cells as the released guide's own fill.sh prints them over the translation 18c29f3815a81f6c… (all of the seat's roots in one cut). By AI agents, Wed Nov 11 2026. No macro, syntax, notation, axiom, sorry.
-/
import Derived.Test.YtcjbgnfjacdnnaaChecked
import GoSem.Claim
import GoSem.ClaimJoined
import GoSem.ClaimMapViews
import Derived.JoinedTies
import Derived.KernelRfl
namespace Go.Proofs.Ytcjbgnfjacdnnaa
/- THE CELL 'sum', in the pinned program and in every row, IS THE sha256 OF THE DUMP (.gsa) THAT YtcjbgnfjacdnnaaProg.lean LOADS. Nothing in Lean hashes anything: it is a label: what it is worth is what the hold of that sum in a sandbox is worth. -/
noncomputable def Try.pinned : Pinned := { name := "ytcjbgnfjacdnnaa", sum := "18c29f3815a81f6c7757025bd6134f81e886102d2262e6ae39e7e950fb186cc1", checked := Try.checked }
namespace Rows
def none {H : Type} : Left H := { results := [], args := [] }

/-- 'laws.FnExactIsNumber': WHATEVER THE INPUT: true; the input reads as it did. -/
def fnExactIsNumberSpec : ChangeSpec := { name := "fnExactIsNumber", fn := fun _ => fun
  | [d] => { results := [.lit (.bool true)], args := [d] }
  | _ => none }
def fnExactIsNumberRow : OpenClaim := { program := "ytcjbgnfjacdnnaa", sum := "18c29f3815a81f6c7757025bd6134f81e886102d2262e6ae39e7e950fb186cc1", func := "loop.example/g03411/laws.FnExactIsNumber", spec := "fnExactIsNumber", apart := false }
def FnExactIsNumberSaid : Prop := fnExactIsNumberRow.holds Try.pinned (OpenSpec.ofChange fnExactIsNumberSpec)

/-- ITS FALSE NEIGHBOUR: 'it returns false'. Refute it at one input. -/
def fnExactIsNumberWrong : ChangeSpec := { name := "fnExactIsNumber", fn := fun _ => fun
  | [d] => { results := [.lit (.bool false)], args := [d] }
  | _ => none }
def FnExactIsNumberWrongFalsely : Prop := fnExactIsNumberRow.holds Try.pinned (OpenSpec.ofChange fnExactIsNumberWrong)

/-- 'laws.FnExactDivideFloor': WHATEVER THE INPUT: true; the input reads as it did. -/
def fnExactDivideFloorSpec : ChangeSpec := { name := "fnExactDivideFloor", fn := fun _ => fun
  | [d1, d2] => { results := [.lit (.bool true)], args := [d1, d2] }
  | _ => none }
def fnExactDivideFloorRow : OpenClaim := { program := "ytcjbgnfjacdnnaa", sum := "18c29f3815a81f6c7757025bd6134f81e886102d2262e6ae39e7e950fb186cc1", func := "loop.example/g03411/laws.FnExactDivideFloor", spec := "fnExactDivideFloor", apart := false }
def FnExactDivideFloorSaid : Prop := fnExactDivideFloorRow.holds Try.pinned (OpenSpec.ofChange fnExactDivideFloorSpec)

/-- ITS FALSE NEIGHBOUR: 'it returns false'. Refute it at one input. -/
def fnExactDivideFloorWrong : ChangeSpec := { name := "fnExactDivideFloor", fn := fun _ => fun
  | [d1, d2] => { results := [.lit (.bool false)], args := [d1, d2] }
  | _ => none }
def FnExactDivideFloorWrongFalsely : Prop := fnExactDivideFloorRow.holds Try.pinned (OpenSpec.ofChange fnExactDivideFloorWrong)

/-- 'laws.FnExactGcdOf': WHATEVER THE INPUT: true; the input reads as it did. -/
def fnExactGcdOfSpec : ChangeSpec := { name := "fnExactGcdOf", fn := fun _ => fun
  | [d1, d2] => { results := [.lit (.bool true)], args := [d1, d2] }
  | _ => none }
def fnExactGcdOfRow : OpenClaim := { program := "ytcjbgnfjacdnnaa", sum := "18c29f3815a81f6c7757025bd6134f81e886102d2262e6ae39e7e950fb186cc1", func := "loop.example/g03411/laws.FnExactGcdOf", spec := "fnExactGcdOf", apart := false }
def FnExactGcdOfSaid : Prop := fnExactGcdOfRow.holds Try.pinned (OpenSpec.ofChange fnExactGcdOfSpec)

/-- ITS FALSE NEIGHBOUR: 'it returns false'. Refute it at one input. -/
def fnExactGcdOfWrong : ChangeSpec := { name := "fnExactGcdOf", fn := fun _ => fun
  | [d1, d2] => { results := [.lit (.bool false)], args := [d1, d2] }
  | _ => none }
def FnExactGcdOfWrongFalsely : Prop := fnExactGcdOfRow.holds Try.pinned (OpenSpec.ofChange fnExactGcdOfWrong)

/-- 'laws.FnExactExtendedGcd': WHATEVER THE INPUT: true; the input reads as it did. -/
def fnExactExtendedGcdSpec : ChangeSpec := { name := "fnExactExtendedGcd", fn := fun _ => fun
  | [d1, d2] => { results := [.lit (.bool true)], args := [d1, d2] }
  | _ => none }
def fnExactExtendedGcdRow : OpenClaim := { program := "ytcjbgnfjacdnnaa", sum := "18c29f3815a81f6c7757025bd6134f81e886102d2262e6ae39e7e950fb186cc1", func := "loop.example/g03411/laws.FnExactExtendedGcd", spec := "fnExactExtendedGcd", apart := false }
def FnExactExtendedGcdSaid : Prop := fnExactExtendedGcdRow.holds Try.pinned (OpenSpec.ofChange fnExactExtendedGcdSpec)

/-- ITS FALSE NEIGHBOUR: 'it returns false'. Refute it at one input. -/
def fnExactExtendedGcdWrong : ChangeSpec := { name := "fnExactExtendedGcd", fn := fun _ => fun
  | [d1, d2] => { results := [.lit (.bool false)], args := [d1, d2] }
  | _ => none }
def FnExactExtendedGcdWrongFalsely : Prop := fnExactExtendedGcdRow.holds Try.pinned (OpenSpec.ofChange fnExactExtendedGcdWrong)

/-- 'laws.FnGcd': WHATEVER THE INPUT: true; the input reads as it did. -/
def fnGcdSpec : ChangeSpec := { name := "fnGcd", fn := fun _ => fun
  | [d] => { results := [.lit (.bool true)], args := [d] }
  | _ => none }
def fnGcdRow : OpenClaim := { program := "ytcjbgnfjacdnnaa", sum := "18c29f3815a81f6c7757025bd6134f81e886102d2262e6ae39e7e950fb186cc1", func := "loop.example/g03411/laws.FnGcd", spec := "fnGcd", apart := false }
def FnGcdSaid : Prop := fnGcdRow.holds Try.pinned (OpenSpec.ofChange fnGcdSpec)

/-- ITS FALSE NEIGHBOUR: 'it returns false'. Refute it at one input. -/
def fnGcdWrong : ChangeSpec := { name := "fnGcd", fn := fun _ => fun
  | [d] => { results := [.lit (.bool false)], args := [d] }
  | _ => none }
def FnGcdWrongFalsely : Prop := fnGcdRow.holds Try.pinned (OpenSpec.ofChange fnGcdWrong)

/- THE SECOND FORM. 'bulk': how many values and letters a reading holds, each counted each time it is reached (what is shared counts as often as it is met; a slice's spare places count too). A statement '..UptoSaid' is the law's where the arguments, and the package variables that the reading takes, are together of bulk at most 1048576: NARROWER than '..Said'. Prove '..Said' where nothing that the law and all that it calls make is longer than what came in: it says more and counts as full. Else prove '..UptoSaid'. A law counts once. -/
mutual
def uptoBulk {H : Type} : DataW H → Nat
  | .lit (.string bytes) => bytes.length + 1
  | .lit _ => 1
  | .nil => 1
  | .ptr d => uptoBulk d + 1
  | .slice elems spare => uptoBulkAll elems + uptoBulkAll spare + 1
  | .agg parts => uptoBulkAll parts + 1
  | .iface _ d => uptoBulk d + 1
  | .map entries => uptoBulkEntries entries + 1
  | .held _ => 1
def uptoBulkAll {H : Type} : List (DataW H) → Nat
  | [] => 0
  | d :: r => uptoBulk d + uptoBulkAll r
def uptoBulkEntries {H : Type} : List (Lit × DataW H) → Nat
  | [] => 0
  | x :: r => uptoBulkEntry x + uptoBulkEntries r
def uptoBulkEntry {H : Type} : Lit × DataW H → Nat
  | (.string bytes, d) => bytes.length + uptoBulk d + 1
  | (_, d) => uptoBulk d + 1
 end
def uptoSmall : (H : Type) → List (DataW H) → Bool := fun _ ds => decide (uptoBulkAll ds ≤ 1048576)
def OpenSpec.upto (s : _root_.Go.ChangeSpec) : _root_.Go.OpenSpec := { _root_.Go.OpenSpec.ofChange s with cond := some uptoSmall }

/-- 'laws.FnExactIsNumber', WHERE WHAT IT READS IS OF BULK AT MOST 1048576: true; the input reads as it did. -/
def fnExactIsNumberUptoRow : OpenClaim := { program := "ytcjbgnfjacdnnaa", sum := "18c29f3815a81f6c7757025bd6134f81e886102d2262e6ae39e7e950fb186cc1", func := "loop.example/g03411/laws.FnExactIsNumber", spec := "fnExactIsNumber", apart := false, narrowed := true }
def FnExactIsNumberUptoSaid : Prop := fnExactIsNumberUptoRow.holds Try.pinned (OpenSpec.upto fnExactIsNumberSpec)

/-- 'laws.FnExactDivideFloor', WHERE WHAT IT READS IS OF BULK AT MOST 1048576: true; the input reads as it did. -/
def fnExactDivideFloorUptoRow : OpenClaim := { program := "ytcjbgnfjacdnnaa", sum := "18c29f3815a81f6c7757025bd6134f81e886102d2262e6ae39e7e950fb186cc1", func := "loop.example/g03411/laws.FnExactDivideFloor", spec := "fnExactDivideFloor", apart := false, narrowed := true }
def FnExactDivideFloorUptoSaid : Prop := fnExactDivideFloorUptoRow.holds Try.pinned (OpenSpec.upto fnExactDivideFloorSpec)

/-- 'laws.FnExactGcdOf', WHERE WHAT IT READS IS OF BULK AT MOST 1048576: true; the input reads as it did. -/
def fnExactGcdOfUptoRow : OpenClaim := { program := "ytcjbgnfjacdnnaa", sum := "18c29f3815a81f6c7757025bd6134f81e886102d2262e6ae39e7e950fb186cc1", func := "loop.example/g03411/laws.FnExactGcdOf", spec := "fnExactGcdOf", apart := false, narrowed := true }
def FnExactGcdOfUptoSaid : Prop := fnExactGcdOfUptoRow.holds Try.pinned (OpenSpec.upto fnExactGcdOfSpec)

/-- 'laws.FnExactExtendedGcd', WHERE WHAT IT READS IS OF BULK AT MOST 1048576: true; the input reads as it did. -/
def fnExactExtendedGcdUptoRow : OpenClaim := { program := "ytcjbgnfjacdnnaa", sum := "18c29f3815a81f6c7757025bd6134f81e886102d2262e6ae39e7e950fb186cc1", func := "loop.example/g03411/laws.FnExactExtendedGcd", spec := "fnExactExtendedGcd", apart := false, narrowed := true }
def FnExactExtendedGcdUptoSaid : Prop := fnExactExtendedGcdUptoRow.holds Try.pinned (OpenSpec.upto fnExactExtendedGcdSpec)

/-- 'laws.FnGcd', WHERE WHAT IT READS IS OF BULK AT MOST 1048576: true; the input reads as it did. -/
def fnGcdUptoRow : OpenClaim := { program := "ytcjbgnfjacdnnaa", sum := "18c29f3815a81f6c7757025bd6134f81e886102d2262e6ae39e7e950fb186cc1", func := "loop.example/g03411/laws.FnGcd", spec := "fnGcd", apart := false, narrowed := true }
def FnGcdUptoSaid : Prop := fnGcdUptoRow.holds Try.pinned (OpenSpec.upto fnGcdSpec)

end Rows
end Go.Proofs.Ytcjbgnfjacdnnaa
