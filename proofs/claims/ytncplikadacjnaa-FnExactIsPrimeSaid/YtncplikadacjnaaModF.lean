/-
  Plain mathematics of chapter 8: the elimination over residues as a function of lists. Nothing of a program is used.
-/
import Derived.Test.YtncplikadacjnaaModE
namespace Go.Proofs.Ytncplikadacjnaa

/-- The inverse of a residue, the least one from 0 on; 0 where there is none. -/
def invF (p a : Int) : Int := match (List.range p.toNat).find? (fun (x : Nat) => decide ((a * (x : Int)) % p = 1)) with
  | some x => (x : Int)
  | none => 0
theorem invF_of {p a x : Int} (hp : Prm p) (h0 : 0 ≤ x) (h1 : x < p) (h : InvP p a x) : invF p a = x := by
  have hp0 : 0 < p := by have := hp.1; omega
  have hx : (a * ((x.toNat : Nat) : Int)) % p = 1 := by
    rw [Int.toNat_of_nonneg h0, Cg.emod_eq hp0 h]
    exact Int.emod_eq_of_lt (by omega) (by have := hp.1; omega)
  unfold invF
  cases hf : (List.range p.toNat).find? (fun (x : Nat) => decide ((a * (x : Int)) % p = 1)) with
  | none =>
    have := List.find?_eq_none.mp hf x.toNat (List.mem_range.mpr (by omega))
    exact absurd (decide_eq_true hx) this
  | some y =>
    have h2 := List.find?_some hf
    have h3 := List.mem_range.mp (List.mem_of_find?_eq_some hf)
    have h4 : (a * (y : Int)) % p = 1 := of_decide_eq_true h2
    show (y : Int) = x
    have h5 : InvP p a y := by
      unfold InvP
      refine Cg.of_emod ?_
      rw [h4]
      exact (Int.emod_eq_of_lt (by omega) (by have := hp.1; omega)).symm
    exact Cg.eq ⟨by omega, by omega⟩ ⟨h0, h1⟩ (InvP.uniq hp h5 h)
/-- k rows from row i on without their cells in the pivot's column. -/
def clP (p : Int) (r c t j : Nat) : Nat → Nat → List Int → List Int
  | 0, _, xs => xs
  | k + 1, i, xs => if i = t ∨ mxC c xs i j = 0 then clP p r c t j k (i + 1) xs else clP p r c t j k (i + 1) (rowL r c i (lsV p (mxC c xs i j) (mxC c xs i) (mxC c xs t)) xs)
/-- k columns from column j on. -/
def elP (p : Int) (r c : Nat) : Nat → Nat → List Int → List Nat → Int → List Int × List Nat × Int
  | 0, _, xs, pv, d => (xs, pv, d)
  | k + 1, j, xs, pv, d =>
    if pv.length < r then
      if fstR c j xs (r - pv.length) pv.length = r then elP p r c k (j + 1) xs pv d
      else elP p r c k (j + 1)
        (clP p r c pv.length j r 0 (rowL r c pv.length (scV p (invF p (mxC c (swC (fstR c j xs (r - pv.length) pv.length) pv.length c xs) pv.length j)) (mxC c (swC (fstR c j xs (r - pv.length) pv.length) pv.length c xs) pv.length)) (swC (fstR c j xs (r - pv.length) pv.length) pv.length c xs)))
        (pv ++ [j])
        (((if fstR c j xs (r - pv.length) pv.length = pv.length then d else (-d) % p) * mxC c (swC (fstR c j xs (r - pv.length) pv.length) pv.length c xs) pv.length j) % p)
    else (xs, pv, d)
theorem clP_skip {p : Int} {r c t j k i : Nat} {xs : List Int} (h : i = t ∨ mxC c xs i j = 0) : clP p r c t j (k + 1) i xs = clP p r c t j k (i + 1) xs := if_pos h
theorem clP_on {p : Int} {r c t j k i : Nat} {xs : List Int} (h : ¬ (i = t ∨ mxC c xs i j = 0)) : clP p r c t j (k + 1) i xs = clP p r c t j k (i + 1) (rowL r c i (lsV p (mxC c xs i j) (mxC c xs i) (mxC c xs t)) xs) := if_neg h
theorem elP_end {p : Int} {r c k j : Nat} {xs : List Int} {pv : List Nat} {d : Int} (h : ¬ pv.length < r) : elP p r c k j xs pv d = (xs, pv, d) := by
  cases k with
  | zero => rfl
  | succ k => exact if_neg h
theorem elP_skip {p : Int} {r c k j : Nat} {xs : List Int} {pv : List Nat} {d : Int} (h : pv.length < r) (hf : fstR c j xs (r - pv.length) pv.length = r) : elP p r c (k + 1) j xs pv d = elP p r c k (j + 1) xs pv d := by
  show (if pv.length < r then _ else _) = _
  rw [if_pos h, if_pos hf]
theorem elP_on {p : Int} {r c k j s : Nat} {xs : List Int} {pv : List Nat} {d : Int} (h : pv.length < r) (hf : fstR c j xs (r - pv.length) pv.length = s) (hs : s ≠ r) :
    elP p r c (k + 1) j xs pv d = elP p r c k (j + 1) (clP p r c pv.length j r 0 (rowL r c pv.length (scV p (invF p (mxC c (swC s pv.length c xs) pv.length j)) (mxC c (swC s pv.length c xs) pv.length)) (swC s pv.length c xs))) (pv ++ [j]) (((if s = pv.length then d else (-d) % p) * mxC c (swC s pv.length c xs) pv.length j) % p) := by
  show (if pv.length < r then _ else _) = _
  rw [if_pos h, hf, if_neg hs]
/-- What the inverse is one of. -/
def HasInv (p : Int) : Prop := ∀ a : Int, ¬ p ∣ a → ∃ x : Int, 0 ≤ x ∧ x < p ∧ InvP p a x
theorem HasInv.inv {p : Int} (h : HasInv p) (hp : Prm p) {a : Int} (ha : ¬ p ∣ a) : InvP p a (invF p a) ∧ 0 ≤ invF p a ∧ invF p a < p := by
  obtain ⟨x, h0, h1, hx⟩ := h a ha
  rw [invF_of hp h0 h1 hx]
  exact ⟨hx, h0, h1⟩
theorem can_nd {p a : Int} (h : 0 ≤ a ∧ a < p) (h0 : a ≠ 0) : ¬ p ∣ a := fun hd => by
  have := Int.le_of_dvd (by omega) hd
  omega
theorem PInv.clear {p : Int} (hp : Prm p) {r c n : Nat} {M : Mx} {pv : List Nat} {j : Nat} (ht : pv.length < r) (hj : j < n) : ∀ (k i : Nat) (xs : List Int), i + k = r → PInv p r c n M xs pv j → mxC c xs pv.length j = 1 → (∀ a, a < i → a ≠ pv.length → mxC c xs a j = 0) →
    PInv p r c n M (clP p r c pv.length j k i xs) pv j ∧ mxC c (clP p r c pv.length j k i xs) pv.length j = 1 ∧ (∀ a, a < r → a ≠ pv.length → mxC c (clP p r c pv.length j k i xs) a j = 0) ∧ (r = c → ∀ d, DInv p r M xs d → DInv p r M (clP p r c pv.length j k i xs) d) := by
  intro k
  induction k with
  | zero =>
    intro i xs hik h h1 hz
    obtain rfl : i = r := by omega
    exact ⟨h, h1, hz, fun _ _ h => h⟩
  | succ k ih =>
    intro i xs hik h h1 hz
    by_cases hs : i = pv.length ∨ mxC c xs i j = 0
    · rw [clP_skip hs]
      refine ih (i + 1) xs (by omega) h h1 fun a ha hne => ?_
      rcases Nat.lt_or_ge a i with h2 | h2
      · exact hz a h2 hne
      · obtain rfl : a = i := by omega
        exact hs.resolve_left hne
    · rw [clP_on hs]
      have hi : i < r := by omega
      have hit : i ≠ pv.length := fun e => hs (.inl e)
      obtain ⟨h2, h3, h4⟩ := h.less hp ht hj hi hit h1
      have hnc := h.nc
      obtain ⟨e1, e2, e3, e4⟩ := ih (i + 1) _ (by omega) h2 (by rw [h3 _ _ ht (by omega) (fun e => hit e.symm)]; exact h1) fun a ha hne => by
        by_cases e : a = i
        · rw [e]; exact h4
        · rw [h3 a j (by omega) (by omega) e]; exact hz a (by omega) hne
      exact ⟨e1, e2, e3, fun hrc d hd => e4 hrc d (by subst hrc; exact hd.less hi ht hit)⟩
theorem PInv.all {p : Int} (hp : Prm p) (hI : HasInv p) {r c n : Nat} {M : Mx} : ∀ (k j : Nat) (xs : List Int) (pv : List Nat) (d : Int), j + k = n → PInv p r c n M xs pv j → 0 ≤ d ∧ d < p →
    (∃ j', PInv p r c n M (elP p r c k j xs pv d).1 (elP p r c k j xs pv d).2.1 j' ∧ (j' = n ∨ (elP p r c k j xs pv d).2.1.length = r)) ∧ (0 ≤ (elP p r c k j xs pv d).2.2 ∧ (elP p r c k j xs pv d).2.2 < p) ∧ (r = c → DInv p r M xs d → DInv p r M (elP p r c k j xs pv d).1 (elP p r c k j xs pv d).2.2) := by
  have hp0 : 0 < p := by have := hp.1; omega
  intro k
  induction k with
  | zero =>
    intro j xs pv d hjk h hd
    obtain rfl : j = n := by omega
    exact ⟨⟨j, h, .inl rfl⟩, hd, fun _ h => h⟩
  | succ k ih =>
    intro j xs pv d hjk h hd
    have hnc := h.nc
    have hj : j < n := by omega
    by_cases ht : pv.length < r
    · obtain ⟨f1, f2, f3, f4⟩ := fstR_says (c := c) (j := j) (xs := xs) (k := r - pv.length) (p := pv.length)
      by_cases hf : fstR c j xs (r - pv.length) pv.length = r
      · rw [elP_skip ht hf]
        exact ih (j + 1) xs pv d (by omega) (h.skip hj fun i h1 h2 => f3 i h1 (by omega)) hd
      · obtain ⟨s, hs⟩ : ∃ s, fstR c j xs (r - pv.length) pv.length = s := ⟨_, rfl⟩
        rw [elP_on ht hs (by omega)]
        rw [hs] at f1 f2 f3 f4 hf
        have hsr : s < r := by omega
        have h1 := h.swap f1 hsr
        have hy : mxC c (swC s pv.length c xs) pv.length j ≠ 0 := by
          rw [swC_at h.len ht (by omega)]
          by_cases e : pv.length = s
          · rw [if_pos e, e]; exact f4 (by omega)
          · rw [if_neg e, if_pos rfl]; exact f4 (by omega)
        have hnd := can_nd (h1.can _ _ ht (show j < c by omega)) hy
        obtain ⟨hz, -, -⟩ := hI.inv hp hnd
        obtain ⟨h2, h3⟩ := h1.scale hp ht hj hz
        obtain ⟨e1, e2, e3, e4⟩ := PInv.clear hp ht hj r 0 _ (by omega) h2 h3 (fun a ha => absurd ha (Nat.not_lt_zero a))
        have h5 := e1.pivot ht hj e2 e3
        obtain ⟨g1, g2, g3⟩ := ih (j + 1) _ (pv ++ [j]) (((if s = pv.length then d else (-d) % p) * mxC c (swC s pv.length c xs) pv.length j) % p) (by omega) h5 (res_can hp0 _)
        refine ⟨g1, g2, fun hrc hD => g3 hrc (e4 hrc _ ?_)⟩
        subst hrc
        refine DInv.scale ?_ ht hz
        by_cases e : s = pv.length
        · rw [if_pos e]
          unfold swC
          rw [if_pos e]; exact hD
        · rw [if_neg e]
          exact hD.swap h.len hsr ht e
    · rw [elP_end ht]
      exact ⟨⟨j, h, .inr (show pv.length = r by have := h.le; omega)⟩, hd, fun _ h => h⟩
end Go.Proofs.Ytncplikadacjnaa
