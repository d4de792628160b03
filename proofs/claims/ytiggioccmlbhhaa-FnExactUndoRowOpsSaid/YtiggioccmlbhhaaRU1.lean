/-
  Chapter 5, the program's UndoRowOp and UndoRowOps (where they are written as the model's).
-/
import Derived.Test.YtiggioccmlbhhaaRow7
namespace Go.Proofs.Ytiggioccmlbhhaa
open Go.RowKit

set_option maxHeartbeats 1000000 in
theorem iUndo (k i j t : Int) (w : World) : Calls Try.prog 33 #[.agg #[.int .i64 k, .int .i64 i, .int .i64 j, .int .i64 t]] w (Gives (.agg #[.int .i64 k, .int .i64 i, .int .i64 j, .int .i64 (unT k t)]) w) := by
  have BB : ∀ o p, Below w.heap.size w ((w.alloc o).alloc p) := fun o p => ((Below.refl _ _).alloc (Nat.le_refl _) _).alloc (by simp) _
  by_cases hk : k = 2
  · have E : Hid (unT k t = wrap64 (-t)) := by show unT k t = _; unfold unT; rw [if_pos hk]
    have n1 : (k == 2) = true := by simpa using hk
    clear hk
    go_enter Try.func33, Try.ntmps33
    go_wp2_with fail
    rw [E.out]
    exact bodyPost_ret (v := .agg #[.int .i64 k, .int .i64 i, .int .i64 j, .int .i64 (wrap64 (-t))]) (by simp [results, Try.results33, go_sem]) rfl ⟨rfl, BB _ _⟩
  · have E : Hid (unT k t = t) := by show unT k t = _; unfold unT; rw [if_neg hk]
    have n1 : (k == 2) = false := by simpa using hk
    clear hk
    go_enter Try.func33, Try.ntmps33
    go_wp2_with fail
    rw [E.out]
    exact bodyPost_ret (v := .agg #[.int .i64 k, .int .i64 i, .int .i64 j, .int .i64 t]) (by simp [results, Try.results33, go_sem]) rfl ⟨rfl, BB _ _⟩
end Go.Proofs.Ytiggioccmlbhhaa
