/-
  Plain mathematics of chapter 7: elimination over lists of cells with primitive rows ends in the echelon form. Nothing of a program is used.
-/
import Derived.Test.YtpknondccajinaaPrimL
import Derived.Test.YtpknondccajinaaRowMath
namespace Go.Proofs.Ytpknondccajinaa

/-- The matrix of a list of cells, c columns. -/
def mxC (c : Nat) (xs : List Int) : Mx := fun i j => xs.getD (i * c + j) 0
theorem mxC_tab {r c : Nat} {f : Nat → Nat → Int} {i j : Nat} (hi : i < r) (hj : j < c) : mxC c (tab r c f) i j = f i j := tab_at r c f hi hj
/-- One row made primitive. -/
def prL (r c i : Nat) (xs : List Int) : List Int := tab r c fun p q => if p = i then prV c (mxC c xs i) q else mxC c xs p q
/-- The rows before i made primitive. -/
def prTo (r c i : Nat) (xs : List Int) : List Int := tab r c fun p q => if p < i then prV c (mxC c xs p) q else mxC c xs p q
/-- A row less a multiple of another one, so that there is 0 in column j. -/
def rdV (j : Nat) (u v : Nat → Int) : Nat → Int := fun k => (v j).tdiv ((u j).gcd (v j)) * u k - (u j).tdiv ((u j).gcd (v j)) * v k
def rowN (c : Nat) (v : Nat → Int) : Bool := nums ((List.range c).map v)
def rdL (r c t j i : Nat) (xs : List Int) : List Int := tab r c fun p q => if p = i then prV c (rdV j (mxC c xs i) (mxC c xs t)) q else mxC c xs p q
/-- k rows from row i on without the cell in column j. -/
def elimR (r c t j : Nat) : Nat → Nat → List Int → Option (List Int)
  | 0, _, xs => some xs
  | k + 1, i, xs => if i = t ∨ mxC c xs i j = 0 then elimR r c t j k (i + 1) xs
    else if rowN c (rdV j (mxC c xs i) (mxC c xs t)) = true then elimR r c t j k (i + 1) (rdL r c t j i xs) else none
/-- The first row from p on (k rows are left) with a cell in column j that is not 0. -/
def fstR (c j : Nat) (xs : List Int) : Nat → Nat → Nat
  | 0, p => p
  | k + 1, p => if mxC c xs p j = 0 then fstR c j xs k (p + 1) else p
/-- The rows p and t swapped. -/
def swC (p t c : Nat) (xs : List Int) : List Int := if p = t then xs else opL 0 p t 0 c xs
/-- k columns from column j on. -/
def echC (r c : Nat) : Nat → Nat → List Int → List Nat → Option (List Int × List Nat)
  | 0, _, xs, pv => some (xs, pv)
  | k + 1, j, xs, pv =>
    if pv.length < r then
      if fstR c j xs (r - pv.length) pv.length = r then echC r c k (j + 1) xs pv
      else match elimR r c pv.length j r 0 (swC (fstR c j xs (r - pv.length) pv.length) pv.length c xs) with
        | none => none
        | some ys => echC r c k (j + 1) ys (pv ++ [j])
    else some (xs, pv)
def echM (r c : Nat) (xs : List Int) : Option (List Int × List Nat) := echC r c c 0 (prTo r c r xs) []
theorem fstR_says {c j : Nat} {xs : List Int} : ∀ {k p : Nat}, p ≤ fstR c j xs k p ∧ fstR c j xs k p ≤ p + k ∧ (∀ q, p ≤ q → q < fstR c j xs k p → mxC c xs q j = 0) ∧ (fstR c j xs k p < p + k → mxC c xs (fstR c j xs k p) j ≠ 0) := by
  intro k
  induction k with
  | zero => intro p; exact ⟨Nat.le_refl _, Nat.le_refl _, fun q h1 h2 => absurd h2 (by show ¬ q < p; omega), fun h => absurd h (by show ¬ p < p + 0; omega)⟩
  | succ k ih =>
    intro p
    by_cases h : mxC c xs p j = 0
    · have e : fstR c j xs (k + 1) p = fstR c j xs k (p + 1) := if_pos h
      rw [e]
      obtain ⟨h1, h2, h3, h4⟩ := ih (p := p + 1)
      refine ⟨by omega, by omega, fun q h5 h6 => ?_, fun h5 => h4 (by omega)⟩
      rcases Nat.lt_or_ge p q with h7 | h7
      · exact h3 q h7 h6
      · obtain rfl : q = p := by omega
        exact h
    · have e : fstR c j xs (k + 1) p = p := if_neg h
      rw [e]
      exact ⟨Nat.le_refl _, by omega, fun q h1 h2 => by omega, fun _ => h⟩
theorem fstR_eq {c j : Nat} {xs : List Int} : ∀ {k p q : Nat}, p ≤ q → q ≤ p + k → (∀ i, p ≤ i → i < q → mxC c xs i j = 0) → (q < p + k → mxC c xs q j ≠ 0) → fstR c j xs k p = q := by
  intro k
  induction k with
  | zero => intro p q h1 h2 _ _; show p = q; omega
  | succ k ih =>
    intro p q h1 h2 hz hn
    show (if mxC c xs p j = 0 then fstR c j xs k (p + 1) else p) = q
    rcases Nat.lt_or_ge p q with h | h
    · rw [if_pos (hz p (Nat.le_refl _) h)]
      exact ih (by omega) (by omega) (fun i h3 h4 => hz i (by omega) h4) (fun h3 => hn (by omega))
    · obtain rfl : p = q := by omega
      rw [if_neg (hn (by omega))]
theorem opL_swapC {r c p t i j : Nat} {xs : List Int} (hx : xs.length = r * c) (hi : i < r) (hj : j < c) : mxC c (opL 0 p t 0 c xs) i j = mxC c xs (if i = p then t else if i = t then p else i) j := by
  have hp : i * c + j < xs.length := by rw [hx]; exact idx_lt hi hj
  unfold mxC opL
  simp only [List.getD, List.getElem?_map, List.getElem?_range hp, Option.map_some, Option.getD_some]
  unfold opAt
  rw [if_pos rfl, idx_div hj, idx_mod hj]
  by_cases h1 : i = p
  · rw [if_pos h1, if_pos h1]; rfl
  · rw [if_neg h1, if_neg h1]
    by_cases h2 : i = t
    · rw [if_pos h2, if_pos h2]; rfl
    · rw [if_neg h2, if_neg h2]; rfl
theorem swC_at {r c p t i j : Nat} {xs : List Int} (hx : xs.length = r * c) (hi : i < r) (hj : j < c) : mxC c (swC p t c xs) i j = mxC c xs (if i = p then t else if i = t then p else i) j := by
  unfold swC
  by_cases h : p = t
  · rw [if_pos h, h]
    by_cases h1 : i = t
    · rw [if_pos h1, h1]
    · rw [if_neg h1, if_neg h1]
  · rw [if_neg h, opL_swapC hx hi hj]
theorem swC_length (p t c : Nat) (xs : List Int) : (swC p t c xs).length = xs.length := by unfold swC; split; rfl; exact opL_length _ _ _ _ _ _
theorem gcd_pos' {x y : Int} (hy : y ≠ 0) : 0 < (x.gcd y : Int) := by
  have := Int.gcd_pos_of_ne_zero_right x hy
  omega
theorem rdV_col {u v : Nat → Int} {j : Nat} : rdV j u v j = 0 := by
  unfold rdV
  obtain ⟨a, ha⟩ : ((u j).gcd (v j) : Int) ∣ u j := Int.gcd_dvd_left ..
  obtain ⟨b, hb⟩ : ((u j).gcd (v j) : Int) ∣ v j := Int.gcd_dvd_right ..
  by_cases hg : ((u j).gcd (v j) : Int) = 0
  · rw [hg]; simp
  · obtain ⟨g, hgg⟩ : ∃ g, ((u j).gcd (v j) : Int) = g := ⟨_, rfl⟩
    rw [hgg] at ha hb hg ⊢
    have e1 : (u j).tdiv g = a := by rw [ha, Int.mul_tdiv_cancel_left _ hg]
    have e2 : (v j).tdiv g = b := by rw [hb, Int.mul_tdiv_cancel_left _ hg]
    rw [e1, e2, ha, hb]
    grind
theorem rdV_fac {u v : Nat → Int} {j : Nat} (hv : 0 < v j) : 0 < (v j).tdiv ((u j).gcd (v j)) := by
  obtain ⟨b, hb⟩ : ((u j).gcd (v j) : Int) ∣ v j := Int.gcd_dvd_right ..
  have hg := gcd_pos' (x := u j) (show v j ≠ 0 by omega)
  obtain ⟨g, hgg⟩ : ∃ g, ((u j).gcd (v j) : Int) = g := ⟨_, rfl⟩
  rw [hgg] at hb hg ⊢
  rw [hb, Int.mul_tdiv_cancel_left _ (by omega)]
  rw [hb] at hv
  exact Int.pos_of_mul_pos_right hv hg
theorem rdV_left {u v : Nat → Int} {j q : Nat} (hv : v q = 0) : rdV j u v q = (v j).tdiv ((u j).gcd (v j)) * u q := by
  unfold rdV
  rw [hv, Int.mul_zero]; omega
theorem InSp.prV {r c : Nat} {A : Mx} {v : Nat → Int} (h : InSp r c A v) : InSp r c A (prV c v) := by
  by_cases hg : gcdN c v = 0
  · exact h.congr fun j hj => by unfold Go.Proofs.Ytpknondccajinaa.prV; rw [if_pos hg]
  · refine InSp.of_mul hg ((h.add (InSp.zero r c A) (sgnN c v) 0).congr fun j hj => ?_)
    rw [prV_mul hj hg]; simp
/-- What holds in the middle: the columns before j are done, those of the pivots pv among them. -/
structure EInv (r c : Nat) (M : Mx) (xs : List Int) (pv : List Nat) (j : Nat) : Prop where
  len : xs.length = r * c
  num : nums xs = true
  le : pv.length ≤ r
  jc : j ≤ c
  toM : SubSp r r c (mxC c xs) M
  ofM : SubSp r r c M (mxC c xs)
  norm : ∀ i, i < r → Norm c (mxC c xs i)
  col : ∀ k, k < pv.length → pv.getD k 0 < j
  inc : ∀ k l, k < l → l < pv.length → pv.getD k 0 < pv.getD l 0
  ne : ∀ k, k < pv.length → mxC c xs k (pv.getD k 0) ≠ 0
  only : ∀ k i, k < pv.length → i < r → i ≠ k → mxC c xs i (pv.getD k 0) = 0
  left : ∀ k q, k < pv.length → q < pv.getD k 0 → mxC c xs k q = 0
  rest : ∀ i q, pv.length ≤ i → i < r → q < j → mxC c xs i q = 0
theorem mx_nums {r c : Nat} {xs : List Int} (hx : xs.length = r * c) (h : nums xs = true) {i j : Nat} (hi : i < r) (hj : j < c) : NumP (mxC c xs i j) := nums_at h (by rw [hx]; exact idx_lt hi hj)
theorem tab_nums {r c : Nat} {f : Nat → Nat → Int} (h : ∀ i j, i < r → j < c → NumP (f i j)) : nums (tab r c f) = true := nums_true fun p hp => by
  rw [tab_length] at hp
  have hc : 0 < c := by
    rcases Nat.eq_zero_or_pos c with e | e
    · subst e; omega
    · exact e
  have e : p = p / c * c + p % c := by rw [Nat.mul_comm]; exact (Nat.div_add_mod p c).symm
  rw [e, tab_at r c _ (Nat.div_lt_of_lt_mul (by rw [Nat.mul_comm]; exact hp)) (Nat.mod_lt p hc)]
  exact h _ _ (Nat.div_lt_of_lt_mul (by rw [Nat.mul_comm]; exact hp)) (Nat.mod_lt p hc)
theorem EInv.start {r c : Nat} {xs : List Int} (hx : xs.length = r * c) (hn : nums xs = true) : EInv r c (mxC c xs) (prTo r c r xs) [] 0 where
  len := tab_length _ _ _
  num := tab_nums fun i j hi hj => by
    rw [if_pos hi]
    exact prV_num (fun q hq => mx_nums hx hn hi hq) hj
  le := Nat.zero_le _
  jc := Nat.zero_le _
  toM := fun i hi => (InSp.prV (InSp.row (A := mxC c xs) hi)).congr fun j hj => by
    show mxC c (tab r c _) i j = _
    rw [mxC_tab hi hj, if_pos hi]
  ofM := fun i hi => of_prV hi fun j hj => by
    show mxC c (tab r c _) i j = _
    rw [mxC_tab hi hj, if_pos hi]
  norm := fun i hi => (prV_norm c (mxC c xs i)).congr fun j hj => by
    show mxC c (tab r c _) i j = _
    rw [mxC_tab hi hj, if_pos hi]
  col := fun k hk => absurd hk (Nat.not_lt_zero _)
  inc := fun k l _ hl => absurd hl (Nat.not_lt_zero _)
  ne := fun k hk => absurd hk (Nat.not_lt_zero _)
  only := fun k i hk => absurd hk (Nat.not_lt_zero _)
  left := fun k q hk => absurd hk (Nat.not_lt_zero _)
  rest := fun i q _ _ hq => absurd hq (Nat.not_lt_zero _)
/-- A column without a pivot. -/
theorem EInv.skip {r c : Nat} {M : Mx} {xs : List Int} {pv : List Nat} {j : Nat} (h : EInv r c M xs pv j) (hj : j < c) (hz : ∀ i, pv.length ≤ i → i < r → mxC c xs i j = 0) : EInv r c M xs pv (j + 1) :=
  { h with
    jc := hj
    col := fun k hk => by have := h.col k hk; omega
    rest := fun i q hi hir hq => by
      rcases Nat.lt_or_ge q j with h1 | h1
      · exact h.rest i q hi hir h1
      · obtain rfl : q = j := by omega
        exact hz i hi hir }
/-- The pivot's row is swapped with row t. -/
theorem EInv.swap {r c : Nat} {M : Mx} {xs : List Int} {pv : List Nat} {j p : Nat} (h : EInv r c M xs pv j) (hp : pv.length ≤ p) (hpr : p < r) : EInv r c M (swC p pv.length c xs) pv j := by
  have at_ : ∀ i q, i < r → q < c → mxC c (swC p pv.length c xs) i q = mxC c xs (if i = p then pv.length else if i = pv.length then p else i) q := fun i q hi hq => swC_at h.len hi hq
  have low : ∀ i q, i < pv.length → q < c → mxC c (swC p pv.length c xs) i q = mxC c xs i q := fun i q hi hq => by rw [at_ i q (by omega) hq, if_neg (by omega), if_neg (by omega)]
  have big : ∀ i, pv.length ≤ i → i < r → pv.length ≤ (if i = p then pv.length else if i = pv.length then p else i) ∧ (if i = p then pv.length else if i = pv.length then p else i) < r := fun i h1 h2 => by
    split
    · omega
    · split <;> omega
  have any : ∀ i, i < r → (if i = p then pv.length else if i = pv.length then p else i) < r := fun i hi => by
    split
    · omega
    · split <;> omega
  refine ⟨by rw [swC_length]; exact h.len, ?_, h.le, h.jc, ?_, ?_, ?_, h.col, h.inc, ?_, ?_, ?_, ?_⟩
  · refine nums_true fun k hk => ?_
    rw [swC_length, h.len] at hk
    have hc : 0 < c := by
      rcases Nat.eq_zero_or_pos c with e | e
      · subst e; omega
      · exact e
    have e : k = k / c * c + k % c := by rw [Nat.mul_comm]; exact (Nat.div_add_mod k c).symm
    have h1 : k / c < r := Nat.div_lt_of_lt_mul (by rw [Nat.mul_comm]; exact hk)
    have := at_ (k / c) (k % c) h1 (Nat.mod_lt k hc)
    unfold mxC at this
    rw [e, this]
    exact mx_nums h.len h.num (any _ h1) (Nat.mod_lt k hc)
  · intro i hi
    exact (h.toM _ (any i hi)).congr fun q hq => at_ i q hi hq
  · intro i hi
    refine SubSp.mem (A := mxC c xs) (fun i hi => ?_) (h.ofM i hi)
    refine (InSp.row (A := mxC c (swC p pv.length c xs)) (any i hi)).congr fun q hq => ?_
    rw [at_ _ q (any i hi) hq]
    by_cases e1 : i = p
    · rw [if_pos e1]
      by_cases e2 : pv.length = p
      · rw [if_pos e2, e1, e2]
      · rw [if_neg e2, if_pos rfl, e1]
    · rw [if_neg e1]
      by_cases e2 : i = pv.length
      · rw [if_pos e2, if_pos rfl, e2]
      · rw [if_neg e2, if_neg e1, if_neg e2]
  · intro i hi
    exact (h.norm _ (any i hi)).congr fun q hq => at_ i q hi hq
  · intro k hk
    have := h.col k hk
    have := h.jc
    rw [low k _ hk (by omega)]
    exact h.ne k hk
  · intro k i hk hi hne
    have h1 := h.col k hk
    have h2 := h.jc
    rw [at_ i _ hi (by omega)]
    refine h.only k _ hk (any i hi) ?_
    split
    · omega
    · split <;> omega
  · intro k q hk hq
    have h1 := h.col k hk
    have h2 := h.jc
    rw [low k q hk (by omega)]
    exact h.left k q hk hq
  · intro i q hi hir hq
    have h2 := h.jc
    rw [at_ i q hir (by omega)]
    exact h.rest _ q (big i hi hir).1 (big i hi hir).2 hq
/-- One row without its cell in column j. -/
theorem EInv.reduce {r c : Nat} {M : Mx} {xs : List Int} {pv : List Nat} {j i : Nat} (h : EInv r c M xs pv j) (ht : pv.length < r) (hj : j < c) (hi : i < r) (hit : i ≠ pv.length) (hy : mxC c xs pv.length j ≠ 0) (hn : rowN c (rdV j (mxC c xs i) (mxC c xs pv.length)) = true) :
    EInv r c M (rdL r c pv.length j i xs) pv j ∧ (∀ p q, p < r → q < c → p ≠ i → mxC c (rdL r c pv.length j i xs) p q = mxC c xs p q) ∧ mxC c (rdL r c pv.length j i xs) i j = 0 := by
  obtain ⟨v, hv⟩ : ∃ v, rdV j (mxC c xs i) (mxC c xs pv.length) = v := ⟨_, rfl⟩
  have hyp : 0 < mxC c xs pv.length j := (h.norm _ ht).pos hj (fun q hq => h.rest _ q (Nat.le_refl _) ht hq) hy
  have fac := rdV_fac (u := mxC c xs i) (v := mxC c xs pv.length) (j := j) hyp
  have oth : ∀ p q, p < r → q < c → p ≠ i → mxC c (rdL r c pv.length j i xs) p q = mxC c xs p q := fun p q hp hq hne => by unfold rdL; rw [mxC_tab hp hq, if_neg hne]
  have own : ∀ q, q < c → mxC c (rdL r c pv.length j i xs) i q = prV c v q := fun q hq => by unfold rdL; rw [mxC_tab hi hq, if_pos rfl, hv]
  have lft : ∀ q, q < j → v q = (mxC c xs pv.length j).tdiv ((mxC c xs i j).gcd (mxC c xs pv.length j)) * mxC c xs i q := fun q hq => by rw [← hv]; exact rdV_left (h.rest _ q (Nat.le_refl _) ht hq)
  have zer : ∀ q, q < j → (mxC c (rdL r c pv.length j i xs) i q = 0 ↔ mxC c xs i q = 0) := fun q hq => by
    rw [own q (by omega), prV_zero (by omega), lft q hq]
    constructor
    · intro e; exact (Int.mul_eq_zero.mp e).resolve_left (by omega)
    · intro e; rw [e, Int.mul_zero]
  have vn : ∀ q, q < c → NumP (v q) := fun q hq => by
    have := nums_at hn (j := q) (by simpa using hq)
    rw [hv] at this
    simpa [List.getD, hq] using this
  have hvin : InSp r c (mxC c xs) v := ((InSp.row (c := c) hi).add (InSp.row ht) ((mxC c xs pv.length j).tdiv ((mxC c xs i j).gcd (mxC c xs pv.length j))) (-((mxC c xs i j).tdiv ((mxC c xs i j).gcd (mxC c xs pv.length j))))).congr fun q hq => by
    rw [← hv]; unfold rdV; grind
  refine ⟨⟨tab_length _ _ _, ?_, h.le, h.jc, ?_, ?_, ?_, h.col, h.inc, ?_, ?_, ?_, ?_⟩, oth, ?_⟩
  · refine tab_nums fun p q hp hq => ?_
    by_cases e : p = i
    · rw [if_pos e, hv]; exact prV_num vn hq
    · rw [if_neg e]; exact mx_nums h.len h.num hp hq
  · intro p hp
    by_cases e : p = i
    · subst e
      exact (h.toM.mem hvin.prV).congr own
    · exact (h.toM p hp).congr fun q hq => oth p q hp hq e
  · refine SubSp.trans h.ofM fun p hp => ?_
    by_cases e : p = i
    · subst e
      have hv' : InSp r c (mxC c (rdL r c pv.length j p xs)) v := of_prV hp own
      have ht' : InSp r c (mxC c (rdL r c pv.length j p xs)) (mxC c xs pv.length) := (InSp.row (c := c) ht).congr fun q hq => (oth _ q ht hq (fun e => hit e.symm)).symm
      refine InSp.of_mul (d := (mxC c xs pv.length j).tdiv ((mxC c xs p j).gcd (mxC c xs pv.length j))) (by omega) ((hv'.add ht' 1 ((mxC c xs p j).tdiv ((mxC c xs p j).gcd (mxC c xs pv.length j)))).congr fun q hq => ?_)
      rw [← hv]; unfold rdV; grind
    · exact (InSp.row (A := mxC c (rdL r c pv.length j i xs)) hp).congr fun q hq => (oth p q hp hq e).symm
  · intro p hp
    by_cases e : p = i
    · subst e
      exact (prV_norm c v).congr own
    · exact (h.norm p hp).congr fun q hq => oth p q hp hq e
  · intro k hk
    have h1 := h.col k hk
    by_cases e : k = i
    · subst e
      exact fun e => h.ne k hk ((zer _ h1).mp e)
    · rw [oth k _ (by omega) (by omega) e]; exact h.ne k hk
  · intro k p hk hp hne
    have h1 := h.col k hk
    by_cases e : p = i
    · subst e
      exact (zer _ h1).mpr (h.only k p hk hp hne)
    · rw [oth p _ hp (by omega) e]; exact h.only k p hk hp hne
  · intro k q hk hq
    have h1 := h.col k hk
    by_cases e : k = i
    · subst e
      exact (zer q (by omega)).mpr (h.left k q hk hq)
    · rw [oth k q (by omega) (by omega) e]; exact h.left k q hk hq
  · intro p q hp hpr hq
    by_cases e : p = i
    · subst e
      exact (zer q hq).mpr (h.rest p q hp hpr hq)
    · rw [oth p q hpr (by omega) e]; exact h.rest p q hp hpr hq
  · rw [own j hj, prV_zero hj, ← hv]
    exact rdV_col
theorem EInv.elim {r c : Nat} {M : Mx} {pv : List Nat} {j : Nat} (ht : pv.length < r) (hj : j < c) : ∀ (k i : Nat) (xs ys : List Int), i + k = r → EInv r c M xs pv j → mxC c xs pv.length j ≠ 0 → (∀ p, p < i → p ≠ pv.length → mxC c xs p j = 0) → elimR r c pv.length j k i xs = some ys →
    EInv r c M ys pv j ∧ mxC c ys pv.length j ≠ 0 ∧ ∀ p, p < r → p ≠ pv.length → mxC c ys p j = 0 := by
  intro k
  induction k with
  | zero =>
    intro i xs ys hik h hy hz he
    obtain rfl : i = r := by omega
    injection he with he
    subst he
    exact ⟨h, hy, fun p hp hne => hz p hp hne⟩
  | succ k ih =>
    intro i xs ys hik h hy hz he
    have he' : (if i = pv.length ∨ mxC c xs i j = 0 then elimR r c pv.length j k (i + 1) xs else if rowN c (rdV j (mxC c xs i) (mxC c xs pv.length)) = true then elimR r c pv.length j k (i + 1) (rdL r c pv.length j i xs) else none) = some ys := he
    by_cases h1 : i = pv.length ∨ mxC c xs i j = 0
    · rw [if_pos h1] at he'
      refine ih (i + 1) xs ys (by omega) h hy (fun p hp hne => ?_) he'
      rcases Nat.lt_or_ge p i with h2 | h2
      · exact hz p h2 hne
      · obtain rfl : p = i := by omega
        exact h1.resolve_left hne
    · rw [if_neg h1] at he'
      by_cases h2 : rowN c (rdV j (mxC c xs i) (mxC c xs pv.length)) = true
      · rw [if_pos h2] at he'
        have hi : i < r := by omega
        have hit : i ≠ pv.length := fun e => h1 (.inl e)
        obtain ⟨hr, ho, h0⟩ := h.reduce ht hj hi hit hy h2
        refine ih (i + 1) _ ys (by omega) hr (by rw [ho _ _ ht hj (fun e => hit e.symm)]; exact hy) (fun p hp hne => ?_) he'
        by_cases e : p = i
        · rw [e]; exact h0
        · rw [ho p j (by omega) hj e]; exact hz p (by omega) hne
      · rw [if_neg h2] at he'
        cases he'
/-- A column with a pivot. -/
theorem EInv.pivot {r c : Nat} {M : Mx} {xs : List Int} {pv : List Nat} {j : Nat} (h : EInv r c M xs pv j) (ht : pv.length < r) (hj : j < c) (hy : mxC c xs pv.length j ≠ 0) (hz : ∀ p, p < r → p ≠ pv.length → mxC c xs p j = 0) : EInv r c M xs (pv ++ [j]) (j + 1) := by
  have hl : (pv ++ [j]).length = pv.length + 1 := by simp
  have old : ∀ k, k < pv.length → (pv ++ [j]).getD k 0 = pv.getD k 0 := fun k hk => by rw [List.getD, List.getD, List.getElem?_append_left hk]
  have new : (pv ++ [j]).getD pv.length 0 = j := by simp [List.getD]
  refine ⟨h.len, h.num, by omega, hj, h.toM, h.ofM, h.norm, ?_, ?_, ?_, ?_, ?_, ?_⟩
  · intro k hk
    rcases Nat.lt_or_ge k pv.length with h1 | h1
    · rw [old k h1]; have := h.col k h1; omega
    · obtain rfl : k = pv.length := by omega
      rw [new]; omega
  · intro k l hkl hll
    rcases Nat.lt_or_ge l pv.length with h1 | h1
    · rw [old k (by omega), old l h1]; exact h.inc k l hkl h1
    · obtain rfl : l = pv.length := by omega
      rw [old k hkl, new]; exact h.col k hkl
  · intro k hk
    rcases Nat.lt_or_ge k pv.length with h1 | h1
    · rw [old k h1]; exact h.ne k h1
    · obtain rfl : k = pv.length := by omega
      rw [new]; exact hy
  · intro k i hk hi hne
    rcases Nat.lt_or_ge k pv.length with h1 | h1
    · rw [old k h1]; exact h.only k i h1 hi hne
    · obtain rfl : k = pv.length := by omega
      rw [new]; exact hz i hi hne
  · intro k q hk hq
    rcases Nat.lt_or_ge k pv.length with h1 | h1
    · rw [old k h1] at hq; exact h.left k q h1 hq
    · obtain rfl : k = pv.length := by omega
      rw [new] at hq; exact h.rest _ q (Nat.le_refl _) ht hq
  · intro i q hi hir hq
    rcases Nat.lt_or_ge q j with h1 | h1
    · exact h.rest i q (by omega) hir h1
    · obtain rfl : q = j := by omega
      exact hz i hir (by omega)
theorem EInv.all {r c : Nat} {M : Mx} : ∀ (k j : Nat) (xs : List Int) (pv : List Nat) (ys : List Int) (qv : List Nat), j + k = c → EInv r c M xs pv j → echC r c k j xs pv = some (ys, qv) → ∃ j', EInv r c M ys qv j' ∧ (j' = c ∨ qv.length = r) := by
  intro k
  induction k with
  | zero =>
    intro j xs pv ys qv hjk h he
    injection he with he
    injection he with e1 e2
    subst e1 e2
    obtain rfl : j = c := by omega
    exact ⟨j, h, .inl rfl⟩
  | succ k ih =>
    intro j xs pv ys qv hjk h he
    have he' : (if pv.length < r then
      if fstR c j xs (r - pv.length) pv.length = r then echC r c k (j + 1) xs pv
      else match elimR r c pv.length j r 0 (swC (fstR c j xs (r - pv.length) pv.length) pv.length c xs) with
        | none => none
        | some ys => echC r c k (j + 1) ys (pv ++ [j])
    else some (xs, pv)) = some (ys, qv) := he
    have hj : j < c := by omega
    by_cases ht : pv.length < r
    · rw [if_pos ht] at he'
      obtain ⟨f1, f2, f3, f4⟩ := fstR_says (c := c) (j := j) (xs := xs) (k := r - pv.length) (p := pv.length)
      by_cases hp : fstR c j xs (r - pv.length) pv.length = r
      · rw [if_pos hp] at he'
        refine ih (j + 1) xs pv ys qv (by omega) (h.skip hj fun i h1 h2 => f3 i h1 (by omega)) he'
      · rw [if_neg hp] at he'
        generalize fstR c j xs (r - pv.length) pv.length = p at f1 f2 f3 f4 hp he'
        have hs := h.swap f1 (show p < r by omega)
        have hy : mxC c (swC p pv.length c xs) pv.length j ≠ 0 := by
          rw [swC_at h.len ht hj]
          by_cases e : pv.length = p
          · rw [if_pos e, e]; exact f4 (by omega)
          · rw [if_neg e, if_pos rfl]; exact f4 (by omega)
        cases hel : elimR r c pv.length j r 0 (swC p pv.length c xs) with
        | none => rw [hel] at he'; cases he'
        | some zs =>
          rw [hel] at he'
          obtain ⟨h1, h2, h3⟩ := EInv.elim ht hj r 0 _ zs (by omega) hs hy (fun p hp => by omega) hel
          exact ih (j + 1) zs (pv ++ [j]) ys qv (by omega) (h1.pivot ht hj h2 h3) he'
    · rw [if_neg ht] at he'
      injection he' with he'
      injection he' with e1 e2
      subst e1 e2
      exact ⟨j, h, .inr (by have := h.le; omega)⟩
theorem EInv.ech {r c : Nat} {M : Mx} {xs : List Int} {pv : List Nat} {j : Nat} (h : EInv r c M xs pv j) (he : j = c ∨ pv.length = r) : Ech r c (mxC c xs) (fun k => pv.getD k 0) pv.length where
  le := h.le
  col := fun k hk => by have := h.col k hk; have := h.jc; omega
  inc := h.inc
  pos := fun k hk => by
    have h1 := h.col k hk
    have h2 := h.jc
    have h3 := h.le
    exact (h.norm k (by omega)).pos (by omega) (fun q hq => h.left k q hk hq) (h.ne k hk)
  only := h.only
  left := h.left
  rest := fun i q hi hir hq => by
    rcases he with e | e
    · exact h.rest i q hi hir (by omega)
    · omega
  prim := fun k hk => by
    have h1 := h.col k hk
    have h2 := h.jc
    have h3 := h.le
    exact (h.norm k (by omega)).prim (show pv.getD k 0 < c by omega) (h.ne k hk)
/-- What the elimination ends in is the echelon form of the matrix. -/
theorem echM_says {r c : Nat} {xs ys : List Int} {pv : List Nat} (hx : xs.length = r * c) (hn : nums xs = true) (h : echM r c xs = some (ys, pv)) :
    Ech r c (mxC c ys) (fun k => pv.getD k 0) pv.length ∧ SubSp r r c (mxC c ys) (mxC c xs) ∧ SubSp r r c (mxC c xs) (mxC c ys) ∧ ys.length = r * c ∧ nums ys = true ∧ ∀ i, i < r → Norm c (mxC c ys i) := by
  obtain ⟨j, h, e⟩ := EInv.all c 0 _ [] ys pv (by omega) (EInv.start hx hn) h
  exact ⟨h.ech e, h.toM, h.ofM, h.len, h.num, h.norm⟩
end Go.Proofs.Ytpknondccajinaa
