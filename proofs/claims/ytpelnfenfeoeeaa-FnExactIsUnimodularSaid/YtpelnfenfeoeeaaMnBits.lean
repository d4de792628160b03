/-
  Chapter 6, in the program: sets of lines as bits.
-/
import Derived.Test.YtpelnfenfeoeeaaRows
import Derived.Test.YtpelnfenfeoeeaaBlk
import Derived.Test.YtpelnfenfeoeeaaMnMath
import Derived.WalkKit
import Derived.Laws.BitsAll
import Derived.IntWalk
namespace Go.Proofs.Ytpelnfenfeoeeaa
set_option maxRecDepth 100000
open Go.RowKit

theorem iOnes64 (S : Nat) (h : S < 64) (w : World) : Calls Try.prog 165 #[.int .u64 S] w fun e w' => e = .returned (.int .i64 ((colsL 6 S).length : Int)) ∧ w' = w := by
  go_enter Try.func165, Try.ntmps165
  go_wp2
  go_ret
  refine ⟨congrArg Ending.returned (congrArg (Value.int .i64) ?_), rfl⟩
  revert S
  decide +kernel
theorem iOnes (S : Nat) (h : S < 64) (w : World) : Calls Try.prog 155 #[.int .u64 S] w fun e w' => e = .returned (.int .i64 ((colsL 6 S).length : Int)) ∧ w' = w := by
  go_enter Try.func155, Try.ntmps155
  go_wp2_with fail
  refine (iOnes64 S h _).mono ?_
  rintro e w' ⟨rfl, rfl⟩
  go_wp2_with fail
  go_ret
  exact ⟨rfl, rfl⟩
theorem iCount (S : Nat) (h : S < 64) (w : World) : Calls Try.prog 125 #[.int .u64 S] w fun e w' => e = .returned (.int .i64 ((colsL 6 S).length : Int)) ∧ w' = w := by
  go_enter Try.func125, Try.ntmps125
  go_wp2_with fail
  refine (iOnes S h _).mono ?_
  rintro e w' ⟨rfl, rfl⟩
  go_wp2_with fail
  go_ret
  exact ⟨rfl, rfl⟩
theorem iHas (S c : Nat) (h : S < 64) (hc : c < 6) (w : World) : Calls Try.prog 126 #[.int .u64 S, .int .i64 c] w fun e w' => e = .returned (.bool (S.testBit c)) ∧ w' = w := by
  have c0 : (0 : Int) ≤ (c : Int) := by omega
  have c1 : (c : Int) ≤ 64 := by omega
  go_enter Try.func126, Try.ntmps126
  go_wp2
  go_ret
  refine ⟨congrArg Ending.returned (congrArg Value.bool ?_), rfl⟩
  clear c0 c1
  revert c
  revert S
  decide +kernel
theorem iWithout (S c : Nat) (h : S < 64) (hc : c < 6) (w : World) : Calls Try.prog 156 #[.int .u64 S, .int .i64 c] w fun e w' => e = .returned (.int .u64 (lessS S c)) ∧ w' = w := by
  have c0 : (0 : Int) ≤ (c : Int) := by omega
  have c1 : (c : Int) ≤ 64 := by omega
  go_enter Try.func156, Try.ntmps156
  go_wp2
  go_ret
  refine ⟨congrArg Ending.returned (congrArg (Value.int .u64) ?_), rfl⟩
  clear c0 c1
  revert c
  revert S
  decide +kernel
theorem iFirst (n : Nat) (h : n ≤ 6) (w : World) : Calls Try.prog 99 #[.int .i64 n] w fun e w' => e = .returned (.int .u64 ((2 ^ n - 1 : Nat) : Int)) ∧ w' = w := by
  have c0 : (0 : Int) ≤ (n : Int) := by omega
  have c1 : (n : Int) ≤ 64 := by omega
  go_enter Try.func99, Try.ntmps99
  go_wp2
  go_ret
  refine ⟨congrArg Ending.returned (congrArg (Value.int .u64) ?_), rfl⟩
  clear c0 c1
  revert n
  decide +kernel
end Go.Proofs.Ytpelnfenfeoeeaa
