/-
  Plain mathematics of chapter 8: elimination over residues, over lists of cells. Nothing of a program is used.
-/
import Derived.Test.YtncplikadacjnaaModS
import Derived.Test.YtncplikadacjnaaModD
import Derived.Test.YtncplikadacjnaaRowTo
namespace Go.Proofs.Ytncplikadacjnaa

/-- What holds in the middle: the columns before j (of the first n) are done, those of the pivots pv among them. -/
structure PInv (p : Int) (r c n : Nat) (M : Mx) (xs : List Int) (pv : List Nat) (j : Nat) : Prop where
  len : xs.length = r * c
  can : ∀ i q, i < r → q < c → 0 ≤ mxC c xs i q ∧ mxC c xs i q < p
  le : pv.length ≤ r
  jn : j ≤ n
  nc : n ≤ c
  toM : SubP p r r c (mxC c xs) M
  ofM : SubP p r r c M (mxC c xs)
  col : ∀ k, k < pv.length → pv.getD k 0 < j
  inc : ∀ k l, k < l → l < pv.length → pv.getD k 0 < pv.getD l 0
  one : ∀ k, k < pv.length → mxC c xs k (pv.getD k 0) = 1
  only : ∀ k i, k < pv.length → i < r → i ≠ k → mxC c xs i (pv.getD k 0) = 0
  left : ∀ k q, k < pv.length → q < pv.getD k 0 → mxC c xs k q = 0
  rest : ∀ i q, pv.length ≤ i → i < r → q < j → mxC c xs i q = 0
theorem PInv.start {p : Int} {r c n : Nat} {M : Mx} {xs : List Int} (hx : xs.length = r * c) (hn : n ≤ c) (hc : ∀ i q, i < r → q < c → 0 ≤ mxC c xs i q ∧ mxC c xs i q < p) (hM : ∀ i q, i < r → q < c → Cg p (mxC c xs i q) (M i q)) : PInv p r c n M xs [] 0 where
  len := hx
  can := hc
  le := Nat.zero_le _
  jn := Nat.zero_le _
  nc := hn
  toM := SubP.of_cg hM
  ofM := SubP.of_cg fun i q hi hq => (hM i q hi hq).symm
  col := fun k hk => absurd hk (Nat.not_lt_zero k)
  inc := fun _ l _ hl => absurd hl (Nat.not_lt_zero l)
  one := fun k hk => absurd hk (Nat.not_lt_zero k)
  only := fun k _ hk => absurd hk (Nat.not_lt_zero k)
  left := fun k _ hk => absurd hk (Nat.not_lt_zero k)
  rest := fun _ q _ _ hq => absurd hq (Nat.not_lt_zero q)
section
variable {p : Int} {r c n : Nat} {M : Mx} {xs : List Int} {pv : List Nat} {j : Nat}
theorem PInv.skip (h : PInv p r c n M xs pv j) (hj : j < n) (hz : ∀ i, pv.length ≤ i → i < r → mxC c xs i j = 0) : PInv p r c n M xs pv (j + 1) :=
  { h with
    jn := hj
    col := fun k hk => by have := h.col k hk; omega
    rest := fun i q hi hir hq => by
      rcases Nat.lt_or_ge q j with h1 | h1
      · exact h.rest i q hi hir h1
      · obtain rfl : q = j := by omega
        exact hz i hi hir }
theorem PInv.swap (h : PInv p r c n M xs pv j) {s : Nat} (hs : pv.length ≤ s) (hsr : s < r) : PInv p r c n M (swC s pv.length c xs) pv j := by
  have hjn := h.jn
  have hnc := h.nc
  have at_ : ∀ i q, i < r → q < c → mxC c (swC s pv.length c xs) i q = mxC c xs (if i = s then pv.length else if i = pv.length then s else i) q := fun i q hi hq => swC_at h.len hi hq
  have low : ∀ i q, i < pv.length → q < c → mxC c (swC s pv.length c xs) i q = mxC c xs i q := fun i q hi hq => by rw [at_ i q (by omega) hq, if_neg (by omega), if_neg (by omega)]
  have big : ∀ i, pv.length ≤ i → i < r → pv.length ≤ (if i = s then pv.length else if i = pv.length then s else i) ∧ (if i = s then pv.length else if i = pv.length then s else i) < r := fun i h1 h2 => by
    split
    · omega
    · split <;> omega
  have any : ∀ i, i < r → (if i = s then pv.length else if i = pv.length then s else i) < r := fun i hi => by
    split
    · omega
    · split <;> omega
  refine ⟨by rw [swC_length]; exact h.len, ?_, h.le, h.jn, h.nc, ?_, ?_, h.col, h.inc, ?_, ?_, ?_, ?_⟩
  · intro i q hi hq
    rw [at_ i q hi hq]
    exact h.can _ q (any i hi) hq
  · intro i hi
    exact (h.toM _ (any i hi)).congr fun q hq => Cg.of_eq (at_ i q hi hq)
  · refine h.ofM.trans fun i hi => ?_
    refine (InP.row (A := mxC c (swC s pv.length c xs)) (any i hi)).congr fun q hq => Cg.of_eq ?_
    rw [at_ _ q (any i hi) hq]
    by_cases e1 : i = s
    · rw [if_pos e1]
      by_cases e2 : pv.length = s
      · rw [if_pos e2, e1, e2]
      · rw [if_neg e2, if_pos rfl, e1]
    · rw [if_neg e1]
      by_cases e2 : i = pv.length
      · rw [if_pos e2, if_pos rfl, e2]
      · rw [if_neg e2, if_neg e1, if_neg e2]
  · intro k hk
    have := h.col k hk
    rw [low k _ hk (by omega)]
    exact h.one k hk
  · intro k i hk hi hne
    have h1 := h.col k hk
    rw [at_ i _ hi (by omega)]
    refine h.only k _ hk (any i hi) ?_
    split
    · omega
    · split <;> omega
  · intro k q hk hq
    have h1 := h.col k hk
    rw [low k q hk (by omega)]
    exact h.left k q hk hq
  · intro i q hi hir hq
    rw [at_ i q hir (by omega)]
    exact h.rest _ q (big i hi hir).1 (big i hi hir).2 hq
/-- One row is replaced. -/
theorem PInv.put (h : PInv p r c n M xs pv j) {i : Nat} {v : Nat → Int} (hi : i < r) (hcan : ∀ q, q < c → 0 ≤ v q ∧ v q < p) (hin : InP p r c (mxC c xs) v) (hback : InP p r c (mxC c (rowL r c i v xs)) (mxC c xs i)) (hz : ∀ q, q < j → mxC c xs i q = 0 → v q = 0) (h1 : i < pv.length → v (pv.getD i 0) = 1) : PInv p r c n M (rowL r c i v xs) pv j := by
  have hjn := h.jn
  have hnc := h.nc
  have own : ∀ q, q < c → mxC c (rowL r c i v xs) i q = v q := fun q hq => rowL_own hi hq
  have oth : ∀ a q, a < r → q < c → a ≠ i → mxC c (rowL r c i v xs) a q = mxC c xs a q := fun a q ha hq hne => rowL_oth ha hq hne
  refine ⟨rowL_length _ _ _ _ _, ?_, h.le, h.jn, h.nc, ?_, ?_, h.col, h.inc, ?_, ?_, ?_, ?_⟩
  · intro a q ha hq
    by_cases e : a = i
    · rw [e, own q hq]; exact hcan q hq
    · rw [oth a q ha hq e]; exact h.can a q ha hq
  · intro a ha
    by_cases e : a = i
    · rw [e]; exact (h.toM.mem hin).congr fun q hq => Cg.of_eq (own q hq)
    · exact (h.toM a ha).congr fun q hq => Cg.of_eq (oth a q ha hq e)
  · refine h.ofM.trans fun a ha => ?_
    by_cases e : a = i
    · rw [e]; exact hback
    · exact (InP.row (A := mxC c (rowL r c i v xs)) ha).congr fun q hq => Cg.of_eq (oth a q ha hq e).symm
  · intro k hk
    have hc := h.col k hk
    by_cases e : k = i
    · rw [e, own _ (by rw [← e]; omega)]; exact h1 (by omega)
    · rw [oth k _ (by have := h.le; omega) (by omega) e]; exact h.one k hk
  · intro k a hk ha hne
    have hc := h.col k hk
    by_cases e : a = i
    · rw [e, own _ (by omega)]
      exact hz _ hc (by rw [← e]; exact h.only k a hk ha hne)
    · rw [oth a _ ha (by omega) e]; exact h.only k a hk ha hne
  · intro k q hk hq
    have hc := h.col k hk
    by_cases e : k = i
    · rw [e, own _ (by omega)]
      exact hz _ (by omega) (by rw [← e]; exact h.left k q hk hq)
    · rw [oth k _ (by have := h.le; omega) (by omega) e]; exact h.left k q hk hq
  · intro a q ha har hq
    by_cases e : a = i
    · rw [e, own _ (by omega)]
      exact hz _ hq (by rw [← e]; exact h.rest a q ha har hq)
    · rw [oth a _ har (by omega) e]; exact h.rest a q ha har hq
theorem res_can {p : Int} (hp : 0 < p) (z : Int) : 0 ≤ z % p ∧ z % p < p := ⟨Int.emod_nonneg _ (by omega), Int.emod_lt_of_pos _ hp⟩
/-- The pivot's row is divided by its pivot. -/
def scV (p z : Int) (u : Nat → Int) : Nat → Int := fun q => (u q * z) % p
theorem PInv.scale (h : PInv p r c n M xs pv j) (hp : Prm p) (ht : pv.length < r) (hj : j < n) {z : Int} (hz : InvP p (mxC c xs pv.length j) z) :
    PInv p r c n M (rowL r c pv.length (scV p z (mxC c xs pv.length)) xs) pv j ∧ mxC c (rowL r c pv.length (scV p z (mxC c xs pv.length)) xs) pv.length j = 1 := by
  have hp0 : 0 < p := by have := hp.1; omega
  have hnc := h.nc
  have e1 : scV p z (mxC c xs pv.length) j = 1 := by
    show (mxC c xs pv.length j * z) % p = 1
    rw [Cg.emod_eq hp0 hz]
    exact Int.emod_eq_of_lt (by omega) (by have := hp.1; omega)
  refine ⟨h.put ht (fun q _ => res_can hp0 _) ?_ ?_ ?_ (fun hlt => absurd hlt (Nat.lt_irrefl _)), by rw [rowL_own ht (by omega)]; exact e1⟩
  · refine (((InP.row (p := p) (c := c) (A := mxC c xs) ht).add InP.zero z 0)).congr fun q _ => (Cg.emod p _).trans (Cg.of_eq ?_)
    rw [Int.mul_zero, Int.add_zero, Int.mul_comm]
  · refine ((InP.row (p := p) (c := c) (A := mxC c (rowL r c pv.length (scV p z (mxC c xs pv.length)) xs)) ht).add InP.zero (mxC c xs pv.length j) 0).congr fun q hq => ?_
    rw [rowL_own ht hq, Int.mul_zero, Int.add_zero]
    have h1 : Cg p (scV p z (mxC c xs pv.length) q) (mxC c xs pv.length q * z) := Cg.emod p _
    refine (Cg.trans (h1.mul_left _) ?_).symm
    have h2 : Cg p (mxC c xs pv.length j * z * mxC c xs pv.length q) (1 * mxC c xs pv.length q) := Cg.mul hz (Cg.refl _ _)
    rw [Int.one_mul] at h2
    refine Cg.trans (Cg.of_eq ?_) h2
    grind
  · intro q hq h0
    show (mxC c xs pv.length q * z) % p = 0
    rw [h0, Int.zero_mul]
    exact Int.zero_emod p
/-- A row less a multiple of the pivot's row. -/
def lsV (p x : Int) (u v : Nat → Int) : Nat → Int := fun q => (u q - x * v q) % p
theorem PInv.less (h : PInv p r c n M xs pv j) (hp : Prm p) (ht : pv.length < r) (hj : j < n) {i : Nat} (hi : i < r) (hit : i ≠ pv.length) (h1 : mxC c xs pv.length j = 1) :
    PInv p r c n M (rowL r c i (lsV p (mxC c xs i j) (mxC c xs i) (mxC c xs pv.length)) xs) pv j ∧ (∀ a q, a < r → q < c → a ≠ i → mxC c (rowL r c i (lsV p (mxC c xs i j) (mxC c xs i) (mxC c xs pv.length)) xs) a q = mxC c xs a q) ∧ mxC c (rowL r c i (lsV p (mxC c xs i j) (mxC c xs i) (mxC c xs pv.length)) xs) i j = 0 := by
  have hp0 : 0 < p := by have := hp.1; omega
  have hnc := h.nc
  have hjn := h.jn
  have same : ∀ q, q < c → mxC c xs pv.length q = 0 → lsV p (mxC c xs i j) (mxC c xs i) (mxC c xs pv.length) q = mxC c xs i q := fun q hq h0 => by
    show (mxC c xs i q - mxC c xs i j * mxC c xs pv.length q) % p = mxC c xs i q
    rw [h0, Int.mul_zero, Int.sub_zero]
    have := h.can i q hi hq
    exact Int.emod_eq_of_lt this.1 this.2
  refine ⟨h.put hi (fun q _ => res_can hp0 _) ?_ ?_ ?_ ?_, fun a q ha hq hne => rowL_oth ha hq hne, ?_⟩
  · refine ((InP.row (p := p) (c := c) (A := mxC c xs) hi).add (InP.row ht) 1 (-(mxC c xs i j))).congr fun q _ => (Cg.emod p _).trans (Cg.of_eq ?_)
    rw [Int.one_mul, Int.neg_mul]; omega
  · have hR : InP p r c (mxC c (rowL r c i (lsV p (mxC c xs i j) (mxC c xs i) (mxC c xs pv.length)) xs)) (mxC c xs pv.length) := (InP.row (A := mxC c (rowL r c i (lsV p (mxC c xs i j) (mxC c xs i) (mxC c xs pv.length)) xs)) ht).congr fun q hq => Cg.of_eq (rowL_oth ht hq (fun e => hit e.symm)).symm
    refine ((InP.row (p := p) (c := c) (A := mxC c (rowL r c i (lsV p (mxC c xs i j) (mxC c xs i) (mxC c xs pv.length)) xs)) hi).add hR 1 (mxC c xs i j)).congr fun q hq => ?_
    rw [rowL_own hi hq, Int.one_mul]
    have h2 : Cg p (lsV p (mxC c xs i j) (mxC c xs i) (mxC c xs pv.length) q) (mxC c xs i q - mxC c xs i j * mxC c xs pv.length q) := Cg.emod p _
    exact (Cg.trans (h2.add (Cg.refl p _)) (Cg.of_eq (by omega))).symm
  · intro q hq h0
    rw [same q (by omega) (h.rest _ q (Nat.le_refl _) ht hq)]
    exact h0
  · intro hlt
    have hc := h.col i hlt
    rw [same _ (by omega) (h.rest _ _ (Nat.le_refl _) ht hc)]
    exact h.one i hlt
  · rw [rowL_own hi (by omega)]
    show (mxC c xs i j - mxC c xs i j * mxC c xs pv.length j) % p = 0
    rw [h1, Int.mul_one, Int.sub_self]
    exact Int.zero_emod p
theorem PInv.pivot (h : PInv p r c n M xs pv j) (ht : pv.length < r) (hj : j < n) (h1 : mxC c xs pv.length j = 1) (hz : ∀ i, i < r → i ≠ pv.length → mxC c xs i j = 0) : PInv p r c n M xs (pv ++ [j]) (j + 1) := by
  have hl : (pv ++ [j]).length = pv.length + 1 := by simp
  have old : ∀ k, k < pv.length → (pv ++ [j]).getD k 0 = pv.getD k 0 := fun k hk => by rw [List.getD, List.getD, List.getElem?_append_left hk]
  have new : (pv ++ [j]).getD pv.length 0 = j := by simp [List.getD]
  refine ⟨h.len, h.can, by omega, hj, h.nc, h.toM, h.ofM, ?_, ?_, ?_, ?_, ?_, ?_⟩
  · intro k hk
    rcases Nat.lt_or_ge k pv.length with h1 | h1
    · rw [old k h1]; have := h.col k h1; omega
    · obtain rfl : k = pv.length := by omega
      rw [new]; omega
  · intro k l hkl hll
    rcases Nat.lt_or_ge l pv.length with h1 | h1
    · rw [old k (by omega), old l h1]; exact h.inc k l hkl h1
    · obtain rfl : l = pv.length := by omega
      rw [old k hkl, new]; exact h.col k hkl
  · intro k hk
    rcases Nat.lt_or_ge k pv.length with h2 | h2
    · rw [old k h2]; exact h.one k h2
    · obtain rfl : k = pv.length := by omega
      rw [new]; exact h1
  · intro k i hk hi hne
    rcases Nat.lt_or_ge k pv.length with h1 | h1
    · rw [old k h1]; exact h.only k i h1 hi hne
    · obtain rfl : k = pv.length := by omega
      rw [new]; exact hz i hi hne
  · intro k q hk hq
    rcases Nat.lt_or_ge k pv.length with h1 | h1
    · rw [old k h1] at hq; exact h.left k q h1 hq
    · obtain rfl : k = pv.length := by omega
      rw [new] at hq; exact h.rest _ q (Nat.le_refl _) ht hq
  · intro i q hi hir hq
    rcases Nat.lt_or_ge q j with h1 | h1
    · exact h.rest i q (by omega) hir h1
    · obtain rfl : q = j := by omega
      exact hz i hir (by omega)
theorem PInv.ref (h : PInv p r c n M xs pv j) (he : j = n ∨ pv.length = r) : RefP r n (mxC c xs) (fun k => pv.getD k 0) pv.length where
  le := h.le
  col := fun k hk => by have := h.col k hk; have := h.jn; omega
  inc := h.inc
  one := h.one
  only := h.only
  left := h.left
  rest := fun i q hi hir hq => by
    rcases he with e | e
    · exact h.rest i q hi hir (by omega)
    · omega
end
/-! ### The determinant on the way -/
/-- The determinant of M is d times that of the cells. -/
def DInv (p : Int) (n : Nat) (M : Mx) (xs : List Int) (d : Int) : Prop := Cg p (det n M) (d * det n (mxC n xs))
theorem DInv.swap {p : Int} {n s t : Nat} {M : Mx} {xs : List Int} {d : Int} (h : DInv p n M xs d) (hx : xs.length = n * n) (hs : s < n) (ht : t < n) (hne : s ≠ t) : DInv p n M (swC s t n xs) ((-d) % p) := by
  have e : det n (mxC n (swC s t n xs)) = -det n (mxC n xs) := by
    rw [← det_swap (mxC n xs) hs ht hne]
    refine det_congr fun a b ha hb => ?_
    rw [swC_at hx ha hb]
    unfold swR
    by_cases h1 : a = s
    · rw [if_pos h1, if_pos h1]
    · rw [if_neg h1, if_neg h1]
      by_cases h2 : a = t
      · rw [if_pos h2, if_pos h2]
      · rw [if_neg h2, if_neg h2]
  unfold DInv
  rw [e]
  refine h.trans (Cg.symm (((Cg.emod p (-d)).mul (Cg.refl p _)).trans (Cg.of_eq ?_)))
  rw [Int.neg_mul_neg]
theorem DInv.scale {p : Int} {n t : Nat} {M : Mx} {xs : List Int} {d a z : Int} (h : DInv p n M xs d) (ht : t < n) (hz : InvP p a z) : DInv p n M (rowL n n t (scV p z (mxC n xs t)) xs) ((d * a) % p) := by
  have e : Cg p (det n (mxC n (rowL n n t (scV p z (mxC n xs t)) xs))) (z * det n (mxC n xs)) := by
    rw [← det_scale (mxC n xs) z ht]
    refine det_cg fun x y hx hy => ?_
    unfold stR
    by_cases h1 : x = t
    · rw [if_pos h1, h1, rowL_own ht hy]
      exact (Cg.emod p _).trans (Cg.of_eq (Int.mul_comm _ _))
    · rw [if_neg h1, rowL_oth hx hy h1]; exact Cg.refl _ _
  refine h.trans (Cg.symm (((Cg.emod p (d * a)).mul e).trans ?_))
  have h2 : Cg p (d * det n (mxC n xs) * (a * z)) (d * det n (mxC n xs) * 1) := Cg.mul_left _ hz
  rw [Int.mul_one] at h2
  exact Cg.trans (Cg.of_eq (by grind)) h2
theorem DInv.less {p : Int} {n i t : Nat} {M : Mx} {xs : List Int} {d x : Int} (h : DInv p n M xs d) (hi : i < n) (ht : t < n) (hne : i ≠ t) : DInv p n M (rowL n n i (lsV p x (mxC n xs i) (mxC n xs t)) xs) d := by
  have e : Cg p (det n (mxC n (rowL n n i (lsV p x (mxC n xs i) (mxC n xs t)) xs))) (det n (mxC n xs)) := by
    rw [← det_less (mxC n xs) x hi ht hne]
    refine det_cg fun a b ha hb => ?_
    unfold stR
    by_cases h1 : a = i
    · rw [if_pos h1, h1, rowL_own hi hb]
      exact Cg.emod p _
    · rw [if_neg h1, rowL_oth ha hb h1]; exact Cg.refl _ _
  exact h.trans (Cg.mul_left d e).symm
end Go.Proofs.Ytncplikadacjnaa
