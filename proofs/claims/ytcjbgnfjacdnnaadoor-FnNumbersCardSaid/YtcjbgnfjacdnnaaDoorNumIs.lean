/-
  Chapter 1, in the model and in the program: IsNumber.
-/
import Derived.Test.YtcjbgnfjacdnnaaDoorRows
import Derived.WalkKit
import Derived.BigQuiet
import Derived.Deep.QuietTactic
import Derived.Lib.Hide
namespace Go.Proofs.YtcjbgnfjacdnnaaDoor
open Go.RowKit

theorem ret_int {k : IntKind} {a b : Int} (h : a = b) : Ending.returned (.int k a) = .returned (.int k b) := by rw [h]
theorem grown_drewN (w : World) (n : Nat) : Grown w (w.drewN n) := by
  induction n with
  | zero => exact Grown.refl _
  | succ n ih => exact Grown.drew ih

/-! ### IsNumber -/
theorem sIsNum_t (n : Int) (w : World) (h1 : -400000000 ≤ n) (h2 : n ≤ 400000000) :
    Calls Tryd.prog 12 #[.int .i64 n] w fun e w' => e = .returned (.bool true) ∧ w = w' := by
  go_enter Tryd.func12, Tryd.ntmps12
  go_wp2
  go_ret
  exact ⟨rfl, rfl⟩
theorem sIsNum_f (n : Int) (w : World) (h : n < -400000000 ∨ 400000000 < n) :
    Calls Tryd.prog 12 #[.int .i64 n] w fun e w' => e = .returned (.bool false) ∧ w = w' := by
  rcases h with h | h
  · go_enter Tryd.func12, Tryd.ntmps12
    go_wp2
    go_ret
    exact ⟨rfl, rfl⟩
  · have h1 : -400000000 ≤ n := by omega
    have h2 : decide (n ≤ 400000000) = false := by simp; omega
    go_enter Tryd.func12, Tryd.ntmps12
    go_wp2
    go_ret
    exact ⟨rfl, rfl⟩
theorem iIsNum_t (n : Int) (w : World) (h1 : -400000000 ≤ n) (h2 : n ≤ 400000000) :
    Calls Tryd.prog 25 #[.int .i64 n] w fun e w' => e = .returned (.bool true) ∧ w = w' := by
  go_enter Tryd.func25, Tryd.ntmps25
  go_wp2
  go_ret
  exact ⟨rfl, rfl⟩
theorem iIsNum_f (n : Int) (w : World) (h : n < -400000000 ∨ 400000000 < n) :
    Calls Tryd.prog 25 #[.int .i64 n] w fun e w' => e = .returned (.bool false) ∧ w = w' := by
  rcases h with h | h
  · go_enter Tryd.func25, Tryd.ntmps25
    go_wp2
    go_ret
    exact ⟨rfl, rfl⟩
  · have h1 : -400000000 ≤ n := by omega
    have h2 : decide (n ≤ 400000000) = false := by simp; omega
    go_enter Tryd.func25, Tryd.ntmps25
    go_wp2
    go_ret
    exact ⟨rfl, rfl⟩


end Go.Proofs.YtcjbgnfjacdnnaaDoor
