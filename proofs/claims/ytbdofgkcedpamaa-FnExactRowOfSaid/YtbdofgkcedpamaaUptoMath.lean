/-
  Plain mathematics: a row that is filled from the left.
-/
import Derived.Test.YtbdofgkcedpamaaMatMath
namespace Go.Proofs.Ytbdofgkcedpamaa

/-- What has been filled in up to k. -/
def upto (n k : Nat) (f : Nat → Int) : List Int := (List.range n).map fun i => if i < k then f i else 0
theorem upto_length (n k : Nat) (f : Nat → Int) : (upto n k f).length = n := by simp [upto]
theorem upto_zero (n : Nat) (f : Nat → Int) : upto n 0 f = List.replicate n 0 := by
  apply List.ext_getElem (by simp [upto])
  intro i h1 h2
  simp [upto]
theorem upto_all (n : Nat) (f : Nat → Int) : upto n n f = (List.range n).map f := by
  apply List.ext_getElem (by simp [upto])
  intro i h1 h2
  have : i < n := by simpa [upto] using h1
  simp [upto, this]
theorem upto_at (n k : Nat) (f : Nat → Int) : (upto n k f).getD k 0 = 0 := by
  unfold upto List.getD
  rcases Nat.lt_or_ge k n with h | h
  · simp [h]
  · simp [h]
theorem upto_step (n k : Nat) (f : Nat → Int) : (upto n k f).set k (f k) = upto n (k + 1) f := by
  apply List.ext_getElem (by simp [upto])
  intro i h1 h2
  have hi : i < n := by simpa [upto] using h2
  rw [List.getElem_set]
  by_cases e : k = i
  · subst e; simp [upto]
  · simp only [e, if_false]
    simp only [upto, List.getElem_map, List.getElem_range]
    by_cases h3 : i < k
    · rw [if_pos h3, if_pos (by omega)]
    · rw [if_neg h3, if_neg (by omega)]
end Go.Proofs.Ytbdofgkcedpamaa
