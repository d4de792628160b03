/-
  Chapter 3, in the program: whether a matrix has a cell; CellOf's guard.
-/
import Derived.Test.YtdnajkoeojlnbaaMatI
import Derived.IntWalk
namespace Go.Proofs.Ytdnajkoeojlnbaa
set_option maxRecDepth 100000
open Go.RowKit

/-- What hasCell answers. -/
def hasB (r c : Int) (xs : List Int) (i j : Int) : Bool := isMat r c xs && decide ((0 ≤ i ∧ i < r) ∧ (0 ≤ j ∧ j < c))
set_option maxHeartbeats 1000000 in
theorem iHasCell (r c i j : Int) (a : Option Addr) (m : Nat) (xs : List Int) (w : World) (h : Rd w a xs) (hn : xs.length ≤ 16777216) :
    Calls Try.prog 61 #[.agg #[.int .i64 r, .int .i64 c, .slice a xs.length m], .int .i64 i, .int .i64 j] w (Gives (.bool (hasB r c xs i j)) w) := by
  have H := Lib.hid h
  have HN := Lib.hid hn
  have B0 : Hid (∀ o1, Below w.heap.size w (w.alloc o1)) := fun o1 => (Below.refl _ _).alloc (Nat.le_refl _) _
  have IM : Hid (∀ w', Below w.heap.size w w' → Calls Try.prog 57 #[.agg #[.int .i64 r, .int .i64 c, .slice a xs.length m]] w' (Gives (.bool (isMat r c xs)) w')) := fun w' hb => iIsMat r c a m xs w' (H.out.below hb) HN.out
  obtain ⟨v, hv⟩ : ∃ v, hasB r c xs i j = v := ⟨_, rfl⟩
  rw [hv]
  unfold hasB at hv
  obtain ⟨b, hb⟩ : ∃ b, isMat r c xs = b := ⟨_, rfl⟩
  rw [hb] at hv IM
  clear hb h hn
  generalize xs.length = l at IM ⊢
  have CS : (b = false ∧ v = false) ∨ (b = true ∧ decide (0 ≤ i) = false ∧ v = false) ∨ (b = true ∧ decide (0 ≤ i) = true ∧ decide (i < r) = false ∧ v = false) ∨ (b = true ∧ decide (0 ≤ i) = true ∧ decide (i < r) = true ∧ decide (0 ≤ j) = false ∧ v = false) ∨ (b = true ∧ decide (0 ≤ i) = true ∧ decide (i < r) = true ∧ decide (0 ≤ j) = true ∧ decide (j < c) = v) := by
    rw [← hv]
    cases b with
    | false => exact .inl ⟨rfl, rfl⟩
    | true =>
      by_cases h1 : 0 ≤ i
      · by_cases h2 : i < r
        · by_cases h3 : 0 ≤ j
          · exact .inr (.inr (.inr (.inr ⟨rfl, by simpa using h1, by simpa using h2, by simpa using h3, by simp [h1, h2, h3]⟩)))
          · exact .inr (.inr (.inr (.inl ⟨rfl, by simpa using h1, by simpa using h2, by simpa using h3, by simp [h3]⟩)))
        · exact .inr (.inr (.inl ⟨rfl, by simpa using h1, by simpa using h2, by simp [h2]⟩))
      · exact .inr (.inl ⟨rfl, by simpa using h1, by simp [h1]⟩)
  clear hv
  rcases CS with ⟨rfl, rfl⟩ | ⟨rfl, n1, rfl⟩ | ⟨rfl, n1, n2, rfl⟩ | ⟨rfl, n1, n2, n3, rfl⟩ | ⟨rfl, n1, n2, n3, n4⟩
  all_goals
    go_enter Try.func61, Try.ntmps61
    go_wp2_with fail
    refine (IM.out _ (B0.out _)).mono ?_
    rintro e w1 ⟨rfl, hb⟩
    have K0 : Hid (Blk3 w1 w.heap.size 27 (.int .i64 r) (.int .i64 c) (.slice a l m)) := (Blk3.at_ _ _ _ _ rfl).keep hb (by simp)
    have B : Hid (Below w.heap.size w w1) := (B0.out _).trans (hb.mono (by simp))
    clear hb
    obtain ⟨c0, c1, c2, -, -, -⟩ := K0.out.all
    go_wp2_with fail
    go_ret
    exact ⟨rfl, B.out⟩
end Go.Proofs.Ytdnajkoeojlnbaa
