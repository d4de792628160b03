/-
  Plain mathematics of chapter 3: matrices as lists of cells. Nothing of a program is imported.
-/
import Derived.WalkKit
namespace Go.Proofs.Ytpelnfenfeoeeaa

def NumP (z : Int) : Prop := -400000000 ≤ z ∧ z ≤ 400000000
instance (z : Int) : Decidable (NumP z) := by unfold NumP; exact inferInstance
def SizeP (z : Int) : Prop := 0 ≤ z ∧ z ≤ 24
instance (z : Int) : Decidable (SizeP z) := by unfold SizeP; exact inferInstance
def nums (zs : List Int) : Bool := zs.all fun z => decide (NumP z)
/-- A valid matrix. -/
def isMat (r c : Int) (zs : List Int) : Bool := decide (SizeP r) && decide (SizeP c) && decide ((zs.length : Int) = r * c) && nums zs

theorem nums_true {zs : List Int} (h : ∀ j : Nat, j < zs.length → NumP (zs.getD j 0)) : nums zs = true := by
  unfold nums
  rw [List.all_eq_true]
  intro z hz
  obtain ⟨i, hi, rfl⟩ := List.getElem_of_mem hz
  have := h i hi
  simp only [List.getD, hi, List.getElem?_eq_getElem, Option.getD_some] at this
  exact decide_eq_true this
theorem nums_false {zs : List Int} {j : Nat} (hj : j < zs.length) (h : ¬ NumP (zs.getD j 0)) : nums zs = false := by
  unfold nums
  rw [List.all_eq_false]
  refine ⟨zs[j], List.getElem_mem hj, ?_⟩
  simp only [List.getD, hj, List.getElem?_eq_getElem, Option.getD_some] at h
  simpa using h
theorem nums_at {zs : List Int} (h : nums zs = true) {j : Nat} (hj : j < zs.length) : NumP (zs.getD j 0) := by
  unfold nums at h
  rw [List.all_eq_true] at h
  have := h zs[j] (List.getElem_mem hj)
  simp only [List.getD, hj, List.getElem?_eq_getElem, Option.getD_some]
  exact of_decide_eq_true this
theorem isMat_says {r c : Int} {zs : List Int} (h : isMat r c zs = true) : (0 ≤ r ∧ r ≤ 24) ∧ (0 ≤ c ∧ c ≤ 24) ∧ (zs.length : Int) = r * c ∧ nums zs = true := by
  unfold isMat at h
  simp only [Bool.and_eq_true, decide_eq_true_eq] at h
  exact ⟨h.1.1.1, h.1.1.2, h.1.2, h.2⟩
theorem mul_size (r c : Int) (hr : 0 ≤ r ∧ r ≤ 24) (hc : 0 ≤ c ∧ c ≤ 24) : 0 ≤ r * c ∧ r * c ≤ 576 := by
  constructor
  · exact Int.mul_nonneg hr.1 hc.1
  · have := Int.mul_le_mul hr.2 hc.2 hc.1 (by omega); omega

/-- A matrix cell by cell. -/
def tab (r c : Nat) (f : Nat → Nat → Int) : List Int := (List.range (r * c)).map fun p => f (p / c) (p % c)
theorem tab_length (r c : Nat) (f : Nat → Nat → Int) : (tab r c f).length = r * c := by simp [tab]
theorem idx_lt {r c i j : Nat} (hi : i < r) (hj : j < c) : i * c + j < r * c := by
  have : (i + 1) * c ≤ r * c := Nat.mul_le_mul_right c hi
  rw [Nat.add_mul, Nat.one_mul] at this; omega
theorem idx_div {c i j : Nat} (hj : j < c) : (i * c + j) / c = i := by
  rw [Nat.mul_comm, Nat.mul_add_div (by omega), Nat.div_eq_of_lt hj]; omega
theorem idx_mod {c i j : Nat} (hj : j < c) : (i * c + j) % c = j := by
  rw [Nat.mul_comm, Nat.mul_add_mod, Nat.mod_eq_of_lt hj]
theorem idx_inj {c i j i' j' : Nat} (hj : j < c) (hj' : j' < c) (h : i * c + j = i' * c + j') : i = i' ∧ j = j' := by
  have h1 := idx_div (i := i) hj
  have h2 := idx_div (i := i') hj'
  have h3 := idx_mod (i := i) hj
  have h4 := idx_mod (i := i') hj'
  rw [h] at h1 h3
  exact ⟨h1.symm.trans h2, h3.symm.trans h4⟩
theorem tab_at (r c : Nat) (f : Nat → Nat → Int) {i j : Nat} (hi : i < r) (hj : j < c) : (tab r c f).getD (i * c + j) 0 = f i j := by
  have := idx_lt hi hj
  simp [tab, List.getD, this, idx_div hj, idx_mod hj]
theorem tab_ext {r c : Nat} {f : Nat → Nat → Int} {zs : List Int} (hl : zs.length = r * c) (h : ∀ i j : Nat, i < r → j < c → zs.getD (i * c + j) 0 = f i j) : zs = tab r c f := by
  apply List.ext_getElem (by rw [hl, tab_length])
  intro p h1 h2
  have hp : p < r * c := by omega
  have hc : 0 < c := by
    rcases Nat.eq_zero_or_pos c with e | e
    · subst e; simp at hp
    · exact e
  have hi : p / c < r := Nat.div_lt_of_lt_mul (by rw [Nat.mul_comm]; exact hp)
  have := h (p / c) (p % c) hi (Nat.mod_lt p hc)
  have e : p / c * c + p % c = p := by rw [Nat.mul_comm]; exact Nat.div_add_mod p c
  rw [e] at this
  simp only [List.getD, List.getElem?_eq_getElem h1, Option.getD_some] at this
  rw [this]
  simp [tab]
theorem getD_set (zs : List Int) (k q : Nat) (z : Int) (hk : k < zs.length) : (zs.set k z).getD q 0 = if q = k then z else zs.getD q 0 := by
  unfold List.getD
  rw [List.getElem?_set]
  by_cases e : k = q
  · subst e; simp [hk]
  · rw [if_neg e, if_neg (fun h => e h.symm)]

/-- What a function that returns a matrix and a bool gives. -/
structure MR where
  ok : Bool
  r : Int
  c : Int
  zs : List Int
def MR.no : MR := ⟨false, 0, 0, []⟩
/-- The matrix, if its cells are within the limit. -/
def MR.done (r c : Int) (zs : List Int) : MR := if isMat r c zs = true then ⟨true, r, c, zs⟩ else MR.no
theorem mul_num (a b : Int) (ha : -400000000 ≤ a ∧ a ≤ 400000000) (hb : -400000000 ≤ b ∧ b ≤ 400000000) : -160000000000000000 ≤ a * b ∧ a * b ≤ 160000000000000000 := by
  have e : (a * b).natAbs = a.natAbs * b.natAbs := Int.natAbs_mul a b
  have l : a.natAbs * b.natAbs ≤ 400000000 * 400000000 := Nat.mul_le_mul (by omega) (by omega)
  omega
theorem list_ne {xs ys : List Int} {k : Nat} (h : xs.getD k 0 ≠ ys.getD k 0) : xs ≠ ys := fun e => h (by rw [e])
theorem list_eq {xs ys : List Int} {n : Nat} (hx : xs.length = n) (hy : ys.length = n) (h : ∀ j : Nat, j < n → xs.getD j 0 = ys.getD j 0) : xs = ys := by
  apply List.ext_getElem (by omega)
  intro i h1 h2
  have := h i (by omega)
  simpa [List.getD, h1, h2] using this

theorem list_getD {xs ys : List Int} (hl : xs.length = ys.length) (h : ∀ q : Nat, q < xs.length → xs.getD q 0 = ys.getD q 0) : xs = ys := list_eq (n := ys.length) hl rfl (by rw [← hl]; exact h)
end Go.Proofs.Ytpelnfenfeoeeaa
