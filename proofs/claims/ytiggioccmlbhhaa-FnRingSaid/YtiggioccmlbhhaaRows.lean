/-
  No cell of these rows narrows 'for every input' (looked for: loops, veiled, ifaces, maps, wideKeys, modest, calm, conditions, laid).
  DERIVED. THE GIVEN ROWS OF THIS SEAT. 9 by the template 'for every input the law returns true; each argument reads behind the call as it read before'; 0 by the template 'total and deterministic' (their statements: YtiggioccmlbhhaaTotals.lean).
  GIVEN WITH THE SEED: the statements are not yours to turn. If you find one false, say at which input.
  Laid BY PROGRAM, IN A SANDBOX (cutbox-rows.mjs): the forced cells as the released guide's own fill.sh prints them over the translation 491c02caa4cee75b… (all of the seat's roots in one cut). By AI agents, Wed Nov 11 2026. No macro, syntax, notation, axiom, sorry.
-/
import Derived.Test.YtiggioccmlbhhaaChecked
import GoSem.Claim
import GoSem.ClaimJoined
import GoSem.ClaimMapViews
import Derived.JoinedTies
import Derived.KernelRfl
namespace Go.Proofs.Ytiggioccmlbhhaa
/- THE CELL 'sum', in the pinned program and in every row, IS THE sha256 OF THE DUMP (.gsa) THAT YtiggioccmlbhhaaProg.lean LOADS. Nothing in Lean hashes anything: it is a label: what it is worth is what the hold of that sum in a sandbox is worth. -/
noncomputable def Try.pinned : Pinned := { name := "ytiggioccmlbhhaa", sum := "491c02caa4cee75b4bcc1f767222731364512348c9361a4333ac44033fcde6a6", checked := Try.checked }
namespace Rows
def none {H : Type} : Left H := { results := [], args := [] }

/-- 'laws.FnRing': WHATEVER THE INPUT: true; the input reads as it did. -/
def fnRingSpec : ChangeSpec := { name := "fnRing", fn := fun _ => fun
  | [d] => { results := [.lit (.bool true)], args := [d] }
  | _ => none }
def fnRingRow : OpenClaim := { program := "ytiggioccmlbhhaa", sum := "491c02caa4cee75b4bcc1f767222731364512348c9361a4333ac44033fcde6a6", func := "loop.example/g03411/laws.FnRing", spec := "fnRing", unfollowed := true, recurses := true, apart := false }
def FnRingSaid : Prop := fnRingRow.holds Try.pinned (OpenSpec.ofChange fnRingSpec)

/-- ITS FALSE NEIGHBOUR: 'it returns false'. Refute it at one input. -/
def fnRingWrong : ChangeSpec := { name := "fnRing", fn := fun _ => fun
  | [d] => { results := [.lit (.bool false)], args := [d] }
  | _ => none }
def FnRingWrongFalsely : Prop := fnRingRow.holds Try.pinned (OpenSpec.ofChange fnRingWrong)

/-- 'laws.FnExactAddMatrices': WHATEVER THE INPUT: true; the input reads as it did. -/
def fnExactAddMatricesSpec : ChangeSpec := { name := "fnExactAddMatrices", fn := fun _ => fun
  | [d1, d2] => { results := [.lit (.bool true)], args := [d1, d2] }
  | _ => none }
def fnExactAddMatricesRow : OpenClaim := { program := "ytiggioccmlbhhaa", sum := "491c02caa4cee75b4bcc1f767222731364512348c9361a4333ac44033fcde6a6", func := "loop.example/g03411/laws.FnExactAddMatrices", spec := "fnExactAddMatrices", unfollowed := true, recurses := true, apart := false }
def FnExactAddMatricesSaid : Prop := fnExactAddMatricesRow.holds Try.pinned (OpenSpec.ofChange fnExactAddMatricesSpec)

/-- ITS FALSE NEIGHBOUR: 'it returns false'. Refute it at one input. -/
def fnExactAddMatricesWrong : ChangeSpec := { name := "fnExactAddMatrices", fn := fun _ => fun
  | [d1, d2] => { results := [.lit (.bool false)], args := [d1, d2] }
  | _ => none }
def FnExactAddMatricesWrongFalsely : Prop := fnExactAddMatricesRow.holds Try.pinned (OpenSpec.ofChange fnExactAddMatricesWrong)

/-- 'laws.FnExactScaleMatrix': WHATEVER THE INPUT: true; the input reads as it did. -/
def fnExactScaleMatrixSpec : ChangeSpec := { name := "fnExactScaleMatrix", fn := fun _ => fun
  | [d1, d2] => { results := [.lit (.bool true)], args := [d1, d2] }
  | _ => none }
def fnExactScaleMatrixRow : OpenClaim := { program := "ytiggioccmlbhhaa", sum := "491c02caa4cee75b4bcc1f767222731364512348c9361a4333ac44033fcde6a6", func := "loop.example/g03411/laws.FnExactScaleMatrix", spec := "fnExactScaleMatrix", unfollowed := true, recurses := true, apart := false }
def FnExactScaleMatrixSaid : Prop := fnExactScaleMatrixRow.holds Try.pinned (OpenSpec.ofChange fnExactScaleMatrixSpec)

/-- ITS FALSE NEIGHBOUR: 'it returns false'. Refute it at one input. -/
def fnExactScaleMatrixWrong : ChangeSpec := { name := "fnExactScaleMatrix", fn := fun _ => fun
  | [d1, d2] => { results := [.lit (.bool false)], args := [d1, d2] }
  | _ => none }
def FnExactScaleMatrixWrongFalsely : Prop := fnExactScaleMatrixRow.holds Try.pinned (OpenSpec.ofChange fnExactScaleMatrixWrong)

/-- 'laws.FnExactIsRowOp': WHATEVER THE INPUT: true; the input reads as it did. -/
def fnExactIsRowOpSpec : ChangeSpec := { name := "fnExactIsRowOp", fn := fun _ => fun
  | [d1, d2] => { results := [.lit (.bool true)], args := [d1, d2] }
  | _ => none }
def fnExactIsRowOpRow : OpenClaim := { program := "ytiggioccmlbhhaa", sum := "491c02caa4cee75b4bcc1f767222731364512348c9361a4333ac44033fcde6a6", func := "loop.example/g03411/laws.FnExactIsRowOp", spec := "fnExactIsRowOp", unfollowed := true, recurses := true, apart := false }
def FnExactIsRowOpSaid : Prop := fnExactIsRowOpRow.holds Try.pinned (OpenSpec.ofChange fnExactIsRowOpSpec)

/-- ITS FALSE NEIGHBOUR: 'it returns false'. Refute it at one input. -/
def fnExactIsRowOpWrong : ChangeSpec := { name := "fnExactIsRowOp", fn := fun _ => fun
  | [d1, d2] => { results := [.lit (.bool false)], args := [d1, d2] }
  | _ => none }
def FnExactIsRowOpWrongFalsely : Prop := fnExactIsRowOpRow.holds Try.pinned (OpenSpec.ofChange fnExactIsRowOpWrong)

/-- 'laws.FnExactDoRowOp': WHATEVER THE INPUT: true; the input reads as it did. -/
def fnExactDoRowOpSpec : ChangeSpec := { name := "fnExactDoRowOp", fn := fun _ => fun
  | [d1, d2] => { results := [.lit (.bool true)], args := [d1, d2] }
  | _ => none }
def fnExactDoRowOpRow : OpenClaim := { program := "ytiggioccmlbhhaa", sum := "491c02caa4cee75b4bcc1f767222731364512348c9361a4333ac44033fcde6a6", func := "loop.example/g03411/laws.FnExactDoRowOp", spec := "fnExactDoRowOp", unfollowed := true, recurses := true, apart := false }
def FnExactDoRowOpSaid : Prop := fnExactDoRowOpRow.holds Try.pinned (OpenSpec.ofChange fnExactDoRowOpSpec)

/-- ITS FALSE NEIGHBOUR: 'it returns false'. Refute it at one input. -/
def fnExactDoRowOpWrong : ChangeSpec := { name := "fnExactDoRowOp", fn := fun _ => fun
  | [d1, d2] => { results := [.lit (.bool false)], args := [d1, d2] }
  | _ => none }
def FnExactDoRowOpWrongFalsely : Prop := fnExactDoRowOpRow.holds Try.pinned (OpenSpec.ofChange fnExactDoRowOpWrong)

/-- 'laws.FnExactUndoRowOp': WHATEVER THE INPUT: true; the input reads as it did. -/
def fnExactUndoRowOpSpec : ChangeSpec := { name := "fnExactUndoRowOp", fn := fun _ => fun
  | [d] => { results := [.lit (.bool true)], args := [d] }
  | _ => none }
def fnExactUndoRowOpRow : OpenClaim := { program := "ytiggioccmlbhhaa", sum := "491c02caa4cee75b4bcc1f767222731364512348c9361a4333ac44033fcde6a6", func := "loop.example/g03411/laws.FnExactUndoRowOp", spec := "fnExactUndoRowOp", apart := false }
def FnExactUndoRowOpSaid : Prop := fnExactUndoRowOpRow.holds Try.pinned (OpenSpec.ofChange fnExactUndoRowOpSpec)

/-- ITS FALSE NEIGHBOUR: 'it returns false'. Refute it at one input. -/
def fnExactUndoRowOpWrong : ChangeSpec := { name := "fnExactUndoRowOp", fn := fun _ => fun
  | [d] => { results := [.lit (.bool false)], args := [d] }
  | _ => none }
def FnExactUndoRowOpWrongFalsely : Prop := fnExactUndoRowOpRow.holds Try.pinned (OpenSpec.ofChange fnExactUndoRowOpWrong)

/-- 'laws.FnExactOpMatrix': WHATEVER THE INPUT: true; the input reads as it did. -/
def fnExactOpMatrixSpec : ChangeSpec := { name := "fnExactOpMatrix", fn := fun _ => fun
  | [d1, d2] => { results := [.lit (.bool true)], args := [d1, d2] }
  | _ => none }
def fnExactOpMatrixRow : OpenClaim := { program := "ytiggioccmlbhhaa", sum := "491c02caa4cee75b4bcc1f767222731364512348c9361a4333ac44033fcde6a6", func := "loop.example/g03411/laws.FnExactOpMatrix", spec := "fnExactOpMatrix", unfollowed := true, recurses := true, apart := false }
def FnExactOpMatrixSaid : Prop := fnExactOpMatrixRow.holds Try.pinned (OpenSpec.ofChange fnExactOpMatrixSpec)

/-- ITS FALSE NEIGHBOUR: 'it returns false'. Refute it at one input. -/
def fnExactOpMatrixWrong : ChangeSpec := { name := "fnExactOpMatrix", fn := fun _ => fun
  | [d1, d2] => { results := [.lit (.bool false)], args := [d1, d2] }
  | _ => none }
def FnExactOpMatrixWrongFalsely : Prop := fnExactOpMatrixRow.holds Try.pinned (OpenSpec.ofChange fnExactOpMatrixWrong)

/-- 'laws.FnExactDoRowOps': WHATEVER THE INPUT: true; the input reads as it did. -/
def fnExactDoRowOpsSpec : ChangeSpec := { name := "fnExactDoRowOps", fn := fun _ => fun
  | [d1, d2] => { results := [.lit (.bool true)], args := [d1, d2] }
  | _ => none }
def fnExactDoRowOpsRow : OpenClaim := { program := "ytiggioccmlbhhaa", sum := "491c02caa4cee75b4bcc1f767222731364512348c9361a4333ac44033fcde6a6", func := "loop.example/g03411/laws.FnExactDoRowOps", spec := "fnExactDoRowOps", unfollowed := true, recurses := true, apart := false }
def FnExactDoRowOpsSaid : Prop := fnExactDoRowOpsRow.holds Try.pinned (OpenSpec.ofChange fnExactDoRowOpsSpec)

/-- ITS FALSE NEIGHBOUR: 'it returns false'. Refute it at one input. -/
def fnExactDoRowOpsWrong : ChangeSpec := { name := "fnExactDoRowOps", fn := fun _ => fun
  | [d1, d2] => { results := [.lit (.bool false)], args := [d1, d2] }
  | _ => none }
def FnExactDoRowOpsWrongFalsely : Prop := fnExactDoRowOpsRow.holds Try.pinned (OpenSpec.ofChange fnExactDoRowOpsWrong)

/-- 'laws.FnExactUndoRowOps': WHATEVER THE INPUT: true; the input reads as it did. -/
def fnExactUndoRowOpsSpec : ChangeSpec := { name := "fnExactUndoRowOps", fn := fun _ => fun
  | [d] => { results := [.lit (.bool true)], args := [d] }
  | _ => none }
def fnExactUndoRowOpsRow : OpenClaim := { program := "ytiggioccmlbhhaa", sum := "491c02caa4cee75b4bcc1f767222731364512348c9361a4333ac44033fcde6a6", func := "loop.example/g03411/laws.FnExactUndoRowOps", spec := "fnExactUndoRowOps", apart := false }
def FnExactUndoRowOpsSaid : Prop := fnExactUndoRowOpsRow.holds Try.pinned (OpenSpec.ofChange fnExactUndoRowOpsSpec)

/-- ITS FALSE NEIGHBOUR: 'it returns false'. Refute it at one input. -/
def fnExactUndoRowOpsWrong : ChangeSpec := { name := "fnExactUndoRowOps", fn := fun _ => fun
  | [d] => { results := [.lit (.bool false)], args := [d] }
  | _ => none }
def FnExactUndoRowOpsWrongFalsely : Prop := fnExactUndoRowOpsRow.holds Try.pinned (OpenSpec.ofChange fnExactUndoRowOpsWrong)

/- THE SECOND FORM. 'bulk': how many values and letters a reading holds, each counted each time it is reached (what is shared counts as often as it is met; a slice's spare places count too). A statement '..UptoSaid' is the law's where the arguments, and the package variables that the reading takes, are together of bulk at most 1048576: NARROWER than '..Said'. Prove '..Said' where nothing that the law and all that it calls make is longer than what came in: it says more and counts as full. Else prove '..UptoSaid'. A law counts once. -/
mutual
def uptoBulk {H : Type} : DataW H → Nat
  | .lit (.string bytes) => bytes.length + 1
  | .lit _ => 1
  | .nil => 1
  | .ptr d => uptoBulk d + 1
  | .slice elems spare => uptoBulkAll elems + uptoBulkAll spare + 1
  | .agg parts => uptoBulkAll parts + 1
  | .iface _ d => uptoBulk d + 1
  | .map entries => uptoBulkEntries entries + 1
  | .held _ => 1
def uptoBulkAll {H : Type} : List (DataW H) → Nat
  | [] => 0
  | d :: r => uptoBulk d + uptoBulkAll r
def uptoBulkEntries {H : Type} : List (Lit × DataW H) → Nat
  | [] => 0
  | x :: r => uptoBulkEntry x + uptoBulkEntries r
def uptoBulkEntry {H : Type} : Lit × DataW H → Nat
  | (.string bytes, d) => bytes.length + uptoBulk d + 1
  | (_, d) => uptoBulk d + 1
 end
def uptoSmall : (H : Type) → List (DataW H) → Bool := fun _ ds => decide (uptoBulkAll ds ≤ 1048576)
def OpenSpec.upto (s : _root_.Go.ChangeSpec) : _root_.Go.OpenSpec := { _root_.Go.OpenSpec.ofChange s with cond := some uptoSmall }

/-- 'laws.FnRing', WHERE WHAT IT READS IS OF BULK AT MOST 1048576: true; the input reads as it did. -/
def fnRingUptoRow : OpenClaim := { program := "ytiggioccmlbhhaa", sum := "491c02caa4cee75b4bcc1f767222731364512348c9361a4333ac44033fcde6a6", func := "loop.example/g03411/laws.FnRing", spec := "fnRing", unfollowed := true, recurses := true, apart := false, narrowed := true }
def FnRingUptoSaid : Prop := fnRingUptoRow.holds Try.pinned (OpenSpec.upto fnRingSpec)

/-- 'laws.FnExactAddMatrices', WHERE WHAT IT READS IS OF BULK AT MOST 1048576: true; the input reads as it did. -/
def fnExactAddMatricesUptoRow : OpenClaim := { program := "ytiggioccmlbhhaa", sum := "491c02caa4cee75b4bcc1f767222731364512348c9361a4333ac44033fcde6a6", func := "loop.example/g03411/laws.FnExactAddMatrices", spec := "fnExactAddMatrices", unfollowed := true, recurses := true, apart := false, narrowed := true }
def FnExactAddMatricesUptoSaid : Prop := fnExactAddMatricesUptoRow.holds Try.pinned (OpenSpec.upto fnExactAddMatricesSpec)

/-- 'laws.FnExactScaleMatrix', WHERE WHAT IT READS IS OF BULK AT MOST 1048576: true; the input reads as it did. -/
def fnExactScaleMatrixUptoRow : OpenClaim := { program := "ytiggioccmlbhhaa", sum := "491c02caa4cee75b4bcc1f767222731364512348c9361a4333ac44033fcde6a6", func := "loop.example/g03411/laws.FnExactScaleMatrix", spec := "fnExactScaleMatrix", unfollowed := true, recurses := true, apart := false, narrowed := true }
def FnExactScaleMatrixUptoSaid : Prop := fnExactScaleMatrixUptoRow.holds Try.pinned (OpenSpec.upto fnExactScaleMatrixSpec)

/-- 'laws.FnExactIsRowOp', WHERE WHAT IT READS IS OF BULK AT MOST 1048576: true; the input reads as it did. -/
def fnExactIsRowOpUptoRow : OpenClaim := { program := "ytiggioccmlbhhaa", sum := "491c02caa4cee75b4bcc1f767222731364512348c9361a4333ac44033fcde6a6", func := "loop.example/g03411/laws.FnExactIsRowOp", spec := "fnExactIsRowOp", unfollowed := true, recurses := true, apart := false, narrowed := true }
def FnExactIsRowOpUptoSaid : Prop := fnExactIsRowOpUptoRow.holds Try.pinned (OpenSpec.upto fnExactIsRowOpSpec)

/-- 'laws.FnExactDoRowOp', WHERE WHAT IT READS IS OF BULK AT MOST 1048576: true; the input reads as it did. -/
def fnExactDoRowOpUptoRow : OpenClaim := { program := "ytiggioccmlbhhaa", sum := "491c02caa4cee75b4bcc1f767222731364512348c9361a4333ac44033fcde6a6", func := "loop.example/g03411/laws.FnExactDoRowOp", spec := "fnExactDoRowOp", unfollowed := true, recurses := true, apart := false, narrowed := true }
def FnExactDoRowOpUptoSaid : Prop := fnExactDoRowOpUptoRow.holds Try.pinned (OpenSpec.upto fnExactDoRowOpSpec)

/-- 'laws.FnExactUndoRowOp', WHERE WHAT IT READS IS OF BULK AT MOST 1048576: true; the input reads as it did. -/
def fnExactUndoRowOpUptoRow : OpenClaim := { program := "ytiggioccmlbhhaa", sum := "491c02caa4cee75b4bcc1f767222731364512348c9361a4333ac44033fcde6a6", func := "loop.example/g03411/laws.FnExactUndoRowOp", spec := "fnExactUndoRowOp", apart := false, narrowed := true }
def FnExactUndoRowOpUptoSaid : Prop := fnExactUndoRowOpUptoRow.holds Try.pinned (OpenSpec.upto fnExactUndoRowOpSpec)

/-- 'laws.FnExactOpMatrix', WHERE WHAT IT READS IS OF BULK AT MOST 1048576: true; the input reads as it did. -/
def fnExactOpMatrixUptoRow : OpenClaim := { program := "ytiggioccmlbhhaa", sum := "491c02caa4cee75b4bcc1f767222731364512348c9361a4333ac44033fcde6a6", func := "loop.example/g03411/laws.FnExactOpMatrix", spec := "fnExactOpMatrix", unfollowed := true, recurses := true, apart := false, narrowed := true }
def FnExactOpMatrixUptoSaid : Prop := fnExactOpMatrixUptoRow.holds Try.pinned (OpenSpec.upto fnExactOpMatrixSpec)

/-- 'laws.FnExactDoRowOps', WHERE WHAT IT READS IS OF BULK AT MOST 1048576: true; the input reads as it did. -/
def fnExactDoRowOpsUptoRow : OpenClaim := { program := "ytiggioccmlbhhaa", sum := "491c02caa4cee75b4bcc1f767222731364512348c9361a4333ac44033fcde6a6", func := "loop.example/g03411/laws.FnExactDoRowOps", spec := "fnExactDoRowOps", unfollowed := true, recurses := true, apart := false, narrowed := true }
def FnExactDoRowOpsUptoSaid : Prop := fnExactDoRowOpsUptoRow.holds Try.pinned (OpenSpec.upto fnExactDoRowOpsSpec)

/-- 'laws.FnExactUndoRowOps', WHERE WHAT IT READS IS OF BULK AT MOST 1048576: true; the input reads as it did. -/
def fnExactUndoRowOpsUptoRow : OpenClaim := { program := "ytiggioccmlbhhaa", sum := "491c02caa4cee75b4bcc1f767222731364512348c9361a4333ac44033fcde6a6", func := "loop.example/g03411/laws.FnExactUndoRowOps", spec := "fnExactUndoRowOps", apart := false, narrowed := true }
def FnExactUndoRowOpsUptoSaid : Prop := fnExactUndoRowOpsUptoRow.holds Try.pinned (OpenSpec.upto fnExactUndoRowOpsSpec)

end Rows
end Go.Proofs.Ytiggioccmlbhhaa
