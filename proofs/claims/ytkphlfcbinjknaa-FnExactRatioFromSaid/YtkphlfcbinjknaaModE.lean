/-
  Plain mathematics of chapter 8: elimination over residues, over lists of cells. Nothing of a program is used.
-/
import Derived.Test.YtkphlfcbinjknaaModS
import Derived.Test.YtkphlfcbinjknaaModD
import Derived.Test.YtkphlfcbinjknaaRowTo
namespace Go.Proofs.Ytkphlfcbinjknaa

section
variable {p : Int} {r c n : Nat} {M : Mx} {xs : List Int} {pv : List Nat} {j : Nat}
theorem res_can {p : Int} (hp : 0 < p) (z : Int) : 0 ≤ z % p ∧ z % p < p := ⟨Int.emod_nonneg _ (by omega), Int.emod_lt_of_pos _ hp⟩
/-- The pivot's row is divided by its pivot. -/
def scV (p z : Int) (u : Nat → Int) : Nat → Int := fun q => (u q * z) % p
/-- A row less a multiple of the pivot's row. -/
def lsV (p x : Int) (u v : Nat → Int) : Nat → Int := fun q => (u q - x * v q) % p
end
/-! ### The determinant on the way -/
/-- The determinant of M is d times that of the cells. -/
def DInv (p : Int) (n : Nat) (M : Mx) (xs : List Int) (d : Int) : Prop := Cg p (det n M) (d * det n (mxC n xs))
theorem DInv.swap {p : Int} {n s t : Nat} {M : Mx} {xs : List Int} {d : Int} (h : DInv p n M xs d) (hx : xs.length = n * n) (hs : s < n) (ht : t < n) (hne : s ≠ t) : DInv p n M (swC s t n xs) ((-d) % p) := by
  have e : det n (mxC n (swC s t n xs)) = -det n (mxC n xs) := by
    rw [← det_swap (mxC n xs) hs ht hne]
    refine det_congr fun a b ha hb => ?_
    rw [swC_at hx ha hb]
    unfold swR
    by_cases h1 : a = s
    · rw [if_pos h1, if_pos h1]
    · rw [if_neg h1, if_neg h1]
      by_cases h2 : a = t
      · rw [if_pos h2, if_pos h2]
      · rw [if_neg h2, if_neg h2]
  unfold DInv
  rw [e]
  refine h.trans (Cg.symm (((Cg.emod p (-d)).mul (Cg.refl p _)).trans (Cg.of_eq ?_)))
  rw [Int.neg_mul_neg]
theorem DInv.scale {p : Int} {n t : Nat} {M : Mx} {xs : List Int} {d a z : Int} (h : DInv p n M xs d) (ht : t < n) (hz : InvP p a z) : DInv p n M (rowL n n t (scV p z (mxC n xs t)) xs) ((d * a) % p) := by
  have e : Cg p (det n (mxC n (rowL n n t (scV p z (mxC n xs t)) xs))) (z * det n (mxC n xs)) := by
    rw [← det_scale (mxC n xs) z ht]
    refine det_cg fun x y hx hy => ?_
    unfold stR
    by_cases h1 : x = t
    · rw [if_pos h1, h1, rowL_own ht hy]
      exact (Cg.emod p _).trans (Cg.of_eq (Int.mul_comm _ _))
    · rw [if_neg h1, rowL_oth hx hy h1]; exact Cg.refl _ _
  refine h.trans (Cg.symm (((Cg.emod p (d * a)).mul e).trans ?_))
  have h2 : Cg p (d * det n (mxC n xs) * (a * z)) (d * det n (mxC n xs) * 1) := Cg.mul_left _ hz
  rw [Int.mul_one] at h2
  exact Cg.trans (Cg.of_eq (by grind)) h2
theorem DInv.less {p : Int} {n i t : Nat} {M : Mx} {xs : List Int} {d x : Int} (h : DInv p n M xs d) (hi : i < n) (ht : t < n) (hne : i ≠ t) : DInv p n M (rowL n n i (lsV p x (mxC n xs i) (mxC n xs t)) xs) d := by
  have e : Cg p (det n (mxC n (rowL n n i (lsV p x (mxC n xs i) (mxC n xs t)) xs))) (det n (mxC n xs)) := by
    rw [← det_less (mxC n xs) x hi ht hne]
    refine det_cg fun a b ha hb => ?_
    unfold stR
    by_cases h1 : a = i
    · rw [if_pos h1, h1, rowL_own hi hb]
      exact Cg.emod p _
    · rw [if_neg h1, rowL_oth ha hb h1]; exact Cg.refl _ _
  exact h.trans (Cg.mul_left d e).symm
end Go.Proofs.Ytkphlfcbinjknaa
