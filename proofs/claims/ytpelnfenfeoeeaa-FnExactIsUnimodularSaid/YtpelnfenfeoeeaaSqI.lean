/-
  Chapter 6, in the program: IsSquare.
-/
import Derived.Test.YtpelnfenfeoeeaaMatI
import Derived.Test.YtpelnfenfeoeeaaSq
import Derived.IntWalk
namespace Go.Proofs.Ytpelnfenfeoeeaa
set_option maxRecDepth 100000
open Go.RowKit

set_option maxHeartbeats 1000000 in
theorem iIsSq (r c : Int) (a : Option Addr) (m : Nat) (xs : List Int) (w : World) (h : Rd w a xs) (hn : xs.length ≤ 16777216) :
    Calls Try.prog 98 #[.agg #[.int .i64 r, .int .i64 c, .slice a xs.length m]] w (Gives (.bool (isSq r c xs)) w) := by
  have H := Lib.hid h
  obtain ⟨n, hx⟩ : ∃ n, xs.length = n := ⟨_, rfl⟩
  have HX := Lib.hid hx
  rw [hx] at hn ⊢
  clear hx h
  have B0 : ∀ o1, Below w.heap.size w (w.alloc o1) := fun o1 => (Below.refl _ _).alloc (Nat.le_refl _) _
  have BH := Lib.hid B0
  clear B0
  have fin : ∀ b (w' : World), isSq r c xs = b → Below w.heap.size w w' → Gives (.bool (isSq r c xs)) w (.returned (.bool b)) w' := fun b w' h1 h2 => ⟨by rw [h1], h2⟩
  have FIN := Lib.hid fin
  clear fin
  go_enter Try.func98, Try.ntmps98
  go_wp2_with fail
  have ST := iIsMat r c a m xs _ (H.out.below (BH.out (.cells #[.int .i64 r, .int .i64 c, .slice a n m] 26))) (by rw [HX.out]; omega)
  rw [HX.out] at ST
  refine ST.mono ?_
  clear ST
  rintro e w1 ⟨rfl, hb⟩
  have K0 : Hid (Blk3 w1 w.heap.size 26 (.int .i64 r) (.int .i64 c) (.slice a n m)) := (Blk3.at_ _ _ _ _ rfl).keep hb (by simp)
  have B : Hid (Below w.heap.size w w1) := (BH.out _).trans (hb.mono (by simp))
  clear hb
  obtain ⟨ca0, ca1, ca2, -, -, -⟩ := K0.out.all
  obtain ⟨bm, hbm⟩ : ∃ b, isMat r c xs = b := ⟨_, rfl⟩
  rw [hbm]
  cases bm with
  | false =>
    have V : Hid (isSq r c xs = false) := by show isSq r c xs = false; unfold isSq; rw [hbm]; rfl
    clear hbm
    go_wp2_with fail
    go_ret
    exact FIN.out _ _ V.out B.out
  | true =>
    by_cases h1 : r = c
    · by_cases h2 : r ≤ 6
      · have V : Hid (isSq r c xs = true) := by show isSq r c xs = true; unfold isSq; rw [hbm, decide_eq_true h1, decide_eq_true h2]; rfl
        clear hbm
        subst h1
        go_wp2_with fail
        go_ret
        exact FIN.out _ _ V.out B.out
      · have V : Hid (isSq r c xs = false) := by show isSq r c xs = false; unfold isSq; rw [hbm, decide_eq_false h2]; simp
        clear hbm
        subst h1
        go_wp2_with fail
        go_ret
        exact FIN.out _ _ (by rw [V.out]; exact (decide_eq_false (by omega)).symm) B.out
    · have V : Hid (isSq r c xs = false) := by show isSq r c xs = false; unfold isSq; rw [hbm, decide_eq_false h1]; simp
      have n1 : (r == c) = false := by simpa using h1
      clear hbm
      go_wp2_with fail
      go_ret
      exact FIN.out _ _ V.out B.out
end Go.Proofs.Ytpelnfenfeoeeaa
