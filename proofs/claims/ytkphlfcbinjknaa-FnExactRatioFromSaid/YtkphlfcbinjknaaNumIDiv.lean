/-
  Chapter 1, in the program: DivideFloor.
-/
import Derived.Test.YtkphlfcbinjknaaRows
import Derived.Test.YtkphlfcbinjknaaNumMath
import Derived.Test.YtkphlfcbinjknaaNumIs
import Derived.WalkKit
import Derived.BigQuiet
import Derived.Deep.QuietTactic
import Derived.Lib.Hide
namespace Go.Proofs.Ytkphlfcbinjknaa
open Go.RowKit

set_option maxHeartbeats 400000 in
theorem iDiv (n d : Int) (w : World) (hn1 : -400000000 ≤ n) (hn2 : n ≤ 400000000) (hd1 : -400000000 ≤ d) (hd2 : d ≤ 400000000) (hd0 : d ≠ 0) :
    Calls Try.prog 24 #[.int .i64 n, .int .i64 d] w fun e w' => e = .returned (.tuple #[.int .i64 (n / d), .int .i64 (n % d), .bool true]) ∧ ∃ n, w' = w.drewN n := by
  have hz : (d == 0) = false := by simpa using hd0
  obtain ⟨b1, b2⟩ := tdiv_bd n d hn1 hn2
  have l := tmod_small n d hd0
  have l1 : -400000000 ≤ n.tmod d := by omega
  have l2 : n.tmod d ≤ 400000000 := by omega
  clear l
  by_cases h : n.tmod d < 0
  · have hn : n < 0 := by
      rcases Int.lt_or_le n 0 with h' | h'
      · exact h'
      · have := Int.tmod_nonneg d h'; omega
    by_cases hd : 0 < d
    · have E := Lib.hid (tdiv_down n d hd h)
      go_enter Try.func24, Try.ntmps24
      go_wp2_with (first | (go_at_call 30; refine (iIsNum_t _ _ (by omega) (by omega)).mono ?_; rintro e w' ⟨rfl, rfl⟩) | go_quiet (fail))
      go_ret3
      exact ⟨by rw [E.out.1, E.out.2]; rfl, _, rfl⟩
    · have E : Hid (n / d = n.tdiv d + 1 ∧ n % d = n.tmod d - d) := by
        obtain ⟨c, rfl⟩ : ∃ c, d = -c := ⟨-d, by omega⟩
        exact iDiv_neg n c (by omega) h
      have hd' : decide (0 < d) = false := by simpa using hd
      go_enter Try.func24, Try.ntmps24
      go_wp2_with (first | (go_at_call 30; refine (iIsNum_t _ _ (by omega) (by omega)).mono ?_; rintro e w' ⟨rfl, rfl⟩) | go_quiet (fail))
      go_ret3
      exact ⟨by rw [E.out.1, E.out.2]; rfl, _, rfl⟩
  · have E := Lib.hid (iDiv_pos n d hd0 (by omega))
    have h' : decide (n.tmod d < 0) = false := by simpa using h
    have hp : 0 ≤ n % d := Int.emod_nonneg n hd0
    have hp' : decide (n % d < 0) = false := by simpa using hp
    go_enter Try.func24, Try.ntmps24
    go_wp2_with (first | (go_at_call 30; refine (iIsNum_t _ _ (by omega) (by omega)).mono ?_; rintro e w' ⟨rfl, rfl⟩) | go_quiet (fail))
    go_ret3
    exact ⟨by rw [E.out.1, E.out.2]; rfl, _, rfl⟩

theorem iDiv_f (n d : Int) (w : World) (h : ¬ ((-400000000 ≤ n ∧ n ≤ 400000000) ∧ (-400000000 ≤ d ∧ d ≤ 400000000) ∧ d ≠ 0)) :
    Calls Try.prog 24 #[.int .i64 n, .int .i64 d] w fun e w' => e = .returned (.tuple #[.int .i64 0, .int .i64 0, .bool false]) ∧ w = w' := by
  by_cases hn : -400000000 ≤ n ∧ n ≤ 400000000
  · by_cases hd : -400000000 ≤ d ∧ d ≤ 400000000
    · have h0 : d = 0 := by omega
      subst h0
      clear h hd
      go_enter Try.func24, Try.ntmps24
      go_wp2_with fail
      refine (iIsNum_t _ _ hn.1 hn.2).mono ?_
      rintro e w' ⟨rfl, rfl⟩
      go_wp2_with fail
      refine (iIsNum_t _ _ (by omega) (by omega)).mono ?_
      rintro e w' ⟨rfl, rfl⟩
      go_wp2_with fail
      go_ret3
      exact ⟨rfl, rfl⟩
    · have hd' : d < -400000000 ∨ 400000000 < d := by omega
      clear h hd
      go_enter Try.func24, Try.ntmps24
      go_wp2_with fail
      refine (iIsNum_t _ _ hn.1 hn.2).mono ?_
      rintro e w' ⟨rfl, rfl⟩
      go_wp2_with fail
      refine (iIsNum_f _ _ hd').mono ?_
      rintro e w' ⟨rfl, rfl⟩
      go_wp2_with fail
      go_ret3
      exact ⟨rfl, rfl⟩
  · have hn' : n < -400000000 ∨ 400000000 < n := by omega
    clear h hn
    go_enter Try.func24, Try.ntmps24
    go_wp2_with fail
    refine (iIsNum_f _ _ hn').mono ?_
    rintro e w' ⟨rfl, rfl⟩
    go_wp2_with fail
    go_ret3
    exact ⟨rfl, rfl⟩

end Go.Proofs.Ytkphlfcbinjknaa
