/-
  Chapter 6, in the model: a matrix without a row and a column.
-/
import Derived.Test.YtncplikadacjnaaMatS
import Derived.IntWalk
import Derived.Test.YtncplikadacjnaaStp
import Derived.Test.YtncplikadacjnaaWoMath
import Derived.Test.YtncplikadacjnaaRowsOwn
import Derived.Deep.RegionHeld3
import Derived.Deep.DeepCutAuto
namespace Go.Proofs.Ytncplikadacjnaa
set_option maxRecDepth 100000
open Go.RowKit

theorem cell_of_block {w w' : World} {b : Nat} (h : w'.heap[b]? = w.heap[b]?) (o : Nat) : w'.cell? ⟨b, o, none⟩ = w.cell? ⟨b, o, none⟩ := by simp [World.cell?, h]
/-- In the walk: the boxes of the argument, the result and the matrix that grows. -/
def WoSt (w wr : World) (R C : Int) (v : Value) (zs : List Int) : Prop := ∃ va vm vc, Blk3 wr w.heap.size 26 (.int .i64 R) (.int .i64 C) v ∧ Blk3 wr (w.heap.size + 1) 26 (.int .i64 0) (.int .i64 0) (.slice none 0 0) ∧ Blk3 wr (w.heap.size + 1 + 1) 26 (.int .i64 (R - 1)) (.int .i64 (C - 1)) (.slice va vm vc) ∧ wr.ownsRow (w.heap.size + 1 + 1 + 1) 3 1 (.slice va vm vc) zs.length (zs.map (Value.int .i64)) ∧ Below w.heap.size w wr
end Go.Proofs.Ytncplikadacjnaa
