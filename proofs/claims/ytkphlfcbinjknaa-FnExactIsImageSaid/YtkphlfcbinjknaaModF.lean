/-
  Plain mathematics of chapter 8: the elimination over residues as a function of lists. Nothing of a program is used.
-/
import Derived.Test.YtkphlfcbinjknaaModE
namespace Go.Proofs.Ytkphlfcbinjknaa

/-- The inverse of a residue, the least one from 0 on; 0 where there is none. -/
def invF (p a : Int) : Int := match (List.range p.toNat).find? (fun (x : Nat) => decide ((a * (x : Int)) % p = 1)) with
  | some x => (x : Int)
  | none => 0
theorem invF_of {p a x : Int} (hp : Prm p) (h0 : 0 ≤ x) (h1 : x < p) (h : InvP p a x) : invF p a = x := by
  have hp0 : 0 < p := by have := hp.1; omega
  have hx : (a * ((x.toNat : Nat) : Int)) % p = 1 := by
    rw [Int.toNat_of_nonneg h0, Cg.emod_eq hp0 h]
    exact Int.emod_eq_of_lt (by omega) (by have := hp.1; omega)
  unfold invF
  cases hf : (List.range p.toNat).find? (fun (x : Nat) => decide ((a * (x : Int)) % p = 1)) with
  | none =>
    have := List.find?_eq_none.mp hf x.toNat (List.mem_range.mpr (by omega))
    exact absurd (decide_eq_true hx) this
  | some y =>
    have h2 := List.find?_some hf
    have h3 := List.mem_range.mp (List.mem_of_find?_eq_some hf)
    have h4 : (a * (y : Int)) % p = 1 := of_decide_eq_true h2
    show (y : Int) = x
    have h5 : InvP p a y := by
      unfold InvP
      refine Cg.of_emod ?_
      rw [h4]
      exact (Int.emod_eq_of_lt (by omega) (by have := hp.1; omega)).symm
    exact Cg.eq ⟨by omega, by omega⟩ ⟨h0, h1⟩ (InvP.uniq hp h5 h)
/-- k rows from row i on without their cells in the pivot's column. -/
def clP (p : Int) (r c t j : Nat) : Nat → Nat → List Int → List Int
  | 0, _, xs => xs
  | k + 1, i, xs => if i = t ∨ mxC c xs i j = 0 then clP p r c t j k (i + 1) xs else clP p r c t j k (i + 1) (rowL r c i (lsV p (mxC c xs i j) (mxC c xs i) (mxC c xs t)) xs)
/-- k columns from column j on. -/
def elP (p : Int) (r c : Nat) : Nat → Nat → List Int → List Nat → Int → List Int × List Nat × Int
  | 0, _, xs, pv, d => (xs, pv, d)
  | k + 1, j, xs, pv, d =>
    if pv.length < r then
      if fstR c j xs (r - pv.length) pv.length = r then elP p r c k (j + 1) xs pv d
      else elP p r c k (j + 1)
        (clP p r c pv.length j r 0 (rowL r c pv.length (scV p (invF p (mxC c (swC (fstR c j xs (r - pv.length) pv.length) pv.length c xs) pv.length j)) (mxC c (swC (fstR c j xs (r - pv.length) pv.length) pv.length c xs) pv.length)) (swC (fstR c j xs (r - pv.length) pv.length) pv.length c xs)))
        (pv ++ [j])
        (((if fstR c j xs (r - pv.length) pv.length = pv.length then d else (-d) % p) * mxC c (swC (fstR c j xs (r - pv.length) pv.length) pv.length c xs) pv.length j) % p)
    else (xs, pv, d)
theorem clP_skip {p : Int} {r c t j k i : Nat} {xs : List Int} (h : i = t ∨ mxC c xs i j = 0) : clP p r c t j (k + 1) i xs = clP p r c t j k (i + 1) xs := if_pos h
theorem clP_on {p : Int} {r c t j k i : Nat} {xs : List Int} (h : ¬ (i = t ∨ mxC c xs i j = 0)) : clP p r c t j (k + 1) i xs = clP p r c t j k (i + 1) (rowL r c i (lsV p (mxC c xs i j) (mxC c xs i) (mxC c xs t)) xs) := if_neg h
theorem elP_end {p : Int} {r c k j : Nat} {xs : List Int} {pv : List Nat} {d : Int} (h : ¬ pv.length < r) : elP p r c k j xs pv d = (xs, pv, d) := by
  cases k with
  | zero => rfl
  | succ k => exact if_neg h
theorem elP_skip {p : Int} {r c k j : Nat} {xs : List Int} {pv : List Nat} {d : Int} (h : pv.length < r) (hf : fstR c j xs (r - pv.length) pv.length = r) : elP p r c (k + 1) j xs pv d = elP p r c k (j + 1) xs pv d := by
  show (if pv.length < r then _ else _) = _
  rw [if_pos h, if_pos hf]
theorem elP_on {p : Int} {r c k j s : Nat} {xs : List Int} {pv : List Nat} {d : Int} (h : pv.length < r) (hf : fstR c j xs (r - pv.length) pv.length = s) (hs : s ≠ r) :
    elP p r c (k + 1) j xs pv d = elP p r c k (j + 1) (clP p r c pv.length j r 0 (rowL r c pv.length (scV p (invF p (mxC c (swC s pv.length c xs) pv.length j)) (mxC c (swC s pv.length c xs) pv.length)) (swC s pv.length c xs))) (pv ++ [j]) (((if s = pv.length then d else (-d) % p) * mxC c (swC s pv.length c xs) pv.length j) % p) := by
  show (if pv.length < r then _ else _) = _
  rw [if_pos h, hf, if_neg hs]
/-- What the inverse is one of. -/
def HasInv (p : Int) : Prop := ∀ a : Int, ¬ p ∣ a → ∃ x : Int, 0 ≤ x ∧ x < p ∧ InvP p a x
theorem HasInv.inv {p : Int} (h : HasInv p) (hp : Prm p) {a : Int} (ha : ¬ p ∣ a) : InvP p a (invF p a) ∧ 0 ≤ invF p a ∧ invF p a < p := by
  obtain ⟨x, h0, h1, hx⟩ := h a ha
  rw [invF_of hp h0 h1 hx]
  exact ⟨hx, h0, h1⟩
theorem can_nd {p a : Int} (h : 0 ≤ a ∧ a < p) (h0 : a ≠ 0) : ¬ p ∣ a := fun hd => by
  have := Int.le_of_dvd (by omega) hd
  omega
end Go.Proofs.Ytkphlfcbinjknaa
