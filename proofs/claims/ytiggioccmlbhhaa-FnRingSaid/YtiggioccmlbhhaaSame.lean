/-
  Chapter 3, in the program: slices.Equal over slices of ints; SameMatrix.
-/
import Derived.Test.YtiggioccmlbhhaaMatI
import Derived.Test.YtiggioccmlbhhaaSameMath
import Derived.Test.YtiggioccmlbhhaaRdCells
import Derived.Test.YtiggioccmlbhhaaShelfE
namespace Go.Proofs.Ytiggioccmlbhhaa
open Go.RowKit

theorem iEqual (a b : Option Addr) (m n : Nat) (xs ys : List Int) (w : World) (h : Rd w a xs) (h' : Rd w b ys) (hn : xs.length ≤ 16777216) (hn' : ys.length ≤ 16777216) :
    Calls Try.prog 58 #[.slice a xs.length m, .slice b ys.length n] w fun e w' => e = .returned (.bool (decide (xs = ys))) ∧ ∃ q, w' = w.drewN q := by
  by_cases el : xs.length = ys.length
  · rcases Nat.eq_zero_or_pos xs.length with e | hz
    · obtain rfl : xs = [] := List.eq_nil_of_length_eq_zero e
      obtain rfl : ys = [] := List.eq_nil_of_length_eq_zero (by rw [← el]; rfl)
      exact (Try.slices_Equal_int_empty a b m 0 n w (by omega)).mono fun e w' ⟨h1, h2⟩ => ⟨by rw [h1]; simp, 0, by rw [h2]; rfl⟩
    · obtain ⟨b1, o1, rfl⟩ := h.addr hz
      obtain ⟨b2, o2, rfl⟩ := h'.addr (by omega)
      refine (Try.slices_Equal_int b1 o1 xs.length m b2 o2 ys.length n xs ys w (Nat.le_refl _) (Nat.le_refl _) (by omega) (by omega) h.cells h'.cells).mono fun e w' ⟨h1, h2⟩ => ⟨?_, h2⟩
      rw [h1, List.take_length, List.take_length]
      congr 2
      by_cases e : xs = ys <;> simp [e]
  · refine (Try.slices_Equal_int_lens a b xs.length m ys.length n w el).mono fun e w' ⟨h1, h2⟩ => ⟨?_, 0, by rw [h2]; rfl⟩
    rw [h1, decide_eq_false (fun e => el (by rw [e]))]

set_option maxHeartbeats 400000 in
theorem iSame (r c r' c' : Int) (a b : Option Addr) (m n : Nat) (xs ys : List Int) (w : World) (h : Rd w a xs) (h' : Rd w b ys) (hn : xs.length ≤ 16777216) (hn' : ys.length ≤ 16777216) :
    Calls Try.prog 16 #[.agg #[.int .i64 r, .int .i64 c, .slice a xs.length m], .agg #[.int .i64 r', .int .i64 c', .slice b ys.length n]] w (Gives (.bool (sameM r c xs r' c' ys)) w) := by
  have B0 : ∀ o1 o2, Below w.heap.size w ((w.alloc o1).alloc o2) := fun o1 o2 => ((Below.refl _ _).alloc (Nat.le_refl _) _).alloc (by simp) _
  have BH := Lib.hid B0
  clear B0
  have H := Lib.hid h
  have H' := Lib.hid h'
  clear h h'
  by_cases e1 : r = r'
  · by_cases e2 : c = c'
    · subst e1 e2
      have E : Hid (sameM r c xs r c ys = decide (xs = ys)) := by show sameM r c xs r c ys = _; unfold sameM; simp
      have n1 : (r == r) = true := by simp
      have n2 : (c == c) = true := by simp
      go_enter Try.func16, Try.ntmps16
      go_wp2_with fail
      refine (iEqual a b m n xs ys _ (H.out.below (BH.out _ _)) (H'.out.below (BH.out _ _)) hn hn').mono ?_
      rintro e w1 ⟨rfl, q, rfl⟩
      go_wp2_with fail
      go_ret
      exact ⟨by rw [E.out]; rfl, below_drewN (BH.out _ _) _⟩
    · have E : Hid (sameM r c xs r' c' ys = false) := decide_eq_false (fun t => e2 t.2.1)
      subst e1
      have n1 : (c == c') = false := by simpa using e2
      have n2 : (c != c') = true := by simpa using e2
      clear e2
      go_enter Try.func16, Try.ntmps16
      go_wp2_with fail
      go_ret
      exact ⟨by rw [E.out]; rfl, BH.out _ _⟩
  · have E : Hid (sameM r c xs r' c' ys = false) := decide_eq_false (fun t => e1 t.1)
    have n1 : (r == r') = false := by simpa using e1
    have n2 : (r != r') = true := by simpa using e1
    clear e1
    go_enter Try.func16, Try.ntmps16
    go_wp2_with fail
    go_ret
    exact ⟨by rw [E.out]; rfl, BH.out _ _⟩
end Go.Proofs.Ytiggioccmlbhhaa
