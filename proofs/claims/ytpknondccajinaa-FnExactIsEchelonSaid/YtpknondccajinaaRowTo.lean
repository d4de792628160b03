/-
  Plain mathematics of chapter 7: a row that is written cell by cell. Nothing of a program is used.
-/
import Derived.Test.YtpknondccajinaaEchL
namespace Go.Proofs.Ytpknondccajinaa

/-- The first k cells of row i are those of v. -/
def rowTo (r c i : Nat) (v : Nat → Int) (xs : List Int) (k : Nat) : List Int := tab r c fun p q => if p = i ∧ q < k then v q else mxC c xs p q
def rowL (r c i : Nat) (v : Nat → Int) (xs : List Int) : List Int := tab r c fun p q => if p = i then v q else mxC c xs p q
theorem rowTo_length (r c i : Nat) (v : Nat → Int) (xs : List Int) (k : Nat) : (rowTo r c i v xs k).length = r * c := tab_length _ _ _
theorem rowTo_at {r c i : Nat} {v : Nat → Int} {xs : List Int} {k p q : Nat} (hp : p < r) (hq : q < c) : (rowTo r c i v xs k).getD (p * c + q) 0 = if p = i ∧ q < k then v q else mxC c xs p q := tab_at r c _ hp hq
theorem rowTo_old {r c i : Nat} {v : Nat → Int} {xs : List Int} {k p q : Nat} (hp : p < r) (hq : q < c) (h : p ≠ i ∨ k ≤ q) : (rowTo r c i v xs k).getD (p * c + q) 0 = xs.getD (p * c + q) 0 := by
  rw [rowTo_at hp hq, if_neg (by omega)]; rfl
theorem rowTo_zero {r c i : Nat} {v : Nat → Int} {xs : List Int} (hx : xs.length = r * c) : rowTo r c i v xs 0 = xs := by
  refine (tab_ext hx fun p q _ _ => ?_).symm
  rw [if_neg (by omega)]; rfl
theorem rowTo_step {r c i : Nat} {v : Nat → Int} {xs : List Int} {k : Nat} (hi : i < r) (hk : k < c) : (rowTo r c i v xs k).set (i * c + k) (v k) = rowTo r c i v xs (k + 1) := by
  refine tab_ext (by rw [List.length_set, rowTo_length]) fun p q hp hq => ?_
  rw [getD_set _ _ _ _ (by rw [rowTo_length]; exact idx_lt hi hk), rowTo_at hp hq]
  by_cases e : p * c + q = i * c + k
  · obtain ⟨rfl, rfl⟩ := idx_inj hq hk e
    rw [if_pos (by omega), if_pos (by omega)]
  · have ne : ¬ (p = i ∧ q = k) := by rintro ⟨rfl, rfl⟩; exact e rfl
    rw [if_neg (by omega)]
    by_cases h : p = i ∧ q < k
    · rw [if_pos h, if_pos (by omega)]
    · rw [if_neg h, if_neg (by omega)]
theorem rowTo_all {r c i : Nat} {v : Nat → Int} {xs : List Int} : rowTo r c i v xs c = rowL r c i v xs := by
  refine tab_ext (rowTo_length _ _ _ _ _ _) fun p q hp hq => ?_
  rw [rowTo_at hp hq]
  by_cases h : p = i
  · rw [if_pos ⟨h, hq⟩, if_pos h]
  · rw [if_neg (fun h1 => h h1.1), if_neg h]
theorem rowL_length (r c i : Nat) (v : Nat → Int) (xs : List Int) : (rowL r c i v xs).length = r * c := tab_length _ _ _
theorem rowL_own {r c i q : Nat} {v : Nat → Int} {xs : List Int} (hi : i < r) (hq : q < c) : mxC c (rowL r c i v xs) i q = v q := by unfold rowL; rw [mxC_tab hi hq, if_pos rfl]
theorem rowL_oth {r c i p q : Nat} {v : Nat → Int} {xs : List Int} (hp : p < r) (hq : q < c) (h : p ≠ i) : mxC c (rowL r c i v xs) p q = mxC c xs p q := by unfold rowL; rw [mxC_tab hp hq, if_neg h]
theorem rowL_congr {r c i : Nat} {u v : Nat → Int} {xs : List Int} (h : ∀ q, q < c → u q = v q) : rowL r c i u xs = rowL r c i v xs := by
  refine tab_ext (rowL_length _ _ _ _ _) fun p q hp hq => ?_
  by_cases e : p = i
  · subst e; rw [if_pos rfl]; exact (rowL_own hp hq).trans (h q hq)
  · rw [if_neg e]; exact rowL_oth hp hq e
theorem rowL_self {r c i : Nat} {v : Nat → Int} {xs : List Int} (hx : xs.length = r * c) (h : i < r → ∀ q, q < c → v q = mxC c xs i q) : rowL r c i v xs = xs := by
  refine (tab_ext hx fun p q hp hq => ?_).symm
  by_cases e : p = i
  · subst e; rw [if_pos rfl, h hp q hq]; rfl
  · rw [if_neg e]; rfl
theorem rowL_twice {r c i : Nat} {u v : Nat → Int} {xs : List Int} : rowL r c i u (rowL r c i v xs) = rowL r c i u xs := by
  refine tab_ext (rowL_length _ _ _ _ _) fun p q hp hq => ?_
  by_cases e : p = i
  · subst e; rw [if_pos rfl]; exact rowL_own hp hq
  · rw [if_neg e]; exact (rowL_oth hp hq e).trans (rowL_oth hp hq e)
theorem prL_row (r c i : Nat) (xs : List Int) : prL r c i xs = rowL r c i (prV c (mxC c xs i)) xs := rfl
theorem rdL_row (r c t j i : Nat) (xs : List Int) : rdL r c t j i xs = rowL r c i (prV c (rdV j (mxC c xs i) (mxC c xs t))) xs := rfl
/-- A row reduced, then made primitive. -/
theorem rdL_prim {r c t j i : Nat} {xs : List Int} (hi : i < r) : prL r c i (rowL r c i (rdV j (mxC c xs i) (mxC c xs t)) xs) = rdL r c t j i xs := by
  rw [prL_row, rdL_row, rowL_twice]
  exact rowL_congr fun q hq => prV_congr (fun k hk => rowL_own hi hk) q hq
theorem prTo_zero {r c : Nat} {xs : List Int} (hx : xs.length = r * c) : prTo r c 0 xs = xs := by
  refine (tab_ext hx fun p q _ _ => ?_).symm
  rw [if_neg (by omega)]; rfl
theorem prTo_length (r c i : Nat) (xs : List Int) : (prTo r c i xs).length = r * c := tab_length _ _ _
theorem prTo_step {r c i : Nat} {xs : List Int} (hi : i < r) : prL r c i (prTo r c i xs) = prTo r c (i + 1) xs := by
  have at_ : ∀ {p q k : Nat}, p < r → q < c → mxC c (prTo r c k xs) p q = if p < k then prV c (mxC c xs p) q else mxC c xs p q := fun hp hq => mxC_tab hp hq
  refine tab_ext (tab_length _ _ _) fun p q hp hq => ?_
  by_cases e : p = i
  · subst e
    rw [if_pos (by omega)]
    refine (rowL_own hp hq).trans (prV_congr (fun k hk => ?_) q hq)
    rw [at_ hp hk, if_neg (by omega)]
  · refine (rowL_oth hp hq e).trans ?_
    rw [at_ hp hq]
    by_cases h : p < i
    · rw [if_pos h, if_pos (by omega)]
    · rw [if_neg h, if_neg (by omega)]
theorem prTo_nums {r c i : Nat} {xs : List Int} (hx : xs.length = r * c) (hn : nums xs = true) : nums (prTo r c i xs) = true := tab_nums fun p q hp hq => by
  by_cases h : p < i
  · rw [if_pos h]; exact prV_num (fun k hk => mx_nums hx hn hp hk) hq
  · rw [if_neg h]; exact mx_nums hx hn hp hq
theorem rowL_nums {r c i : Nat} {v : Nat → Int} {xs : List Int} (hx : xs.length = r * c) (hn : nums xs = true) (hv : ∀ q, q < c → NumP (v q)) : nums (rowL r c i v xs) = true := tab_nums fun p q hp hq => by
  by_cases h : p = i
  · rw [if_pos h]; exact hv q hq
  · rw [if_neg h]; exact mx_nums hx hn hp hq
theorem rowN_iff {c : Nat} {v : Nat → Int} : rowN c v = true ↔ ∀ q, q < c → NumP (v q) := by
  unfold rowN
  constructor
  · intro h q hq
    have := nums_at h (j := q) (by simpa using hq)
    simpa [List.getD, hq] using this
  · intro h
    refine nums_true fun q hq => ?_
    have hq' : q < c := by simpa using hq
    simpa [List.getD, hq'] using h q hq'
theorem elimR_skip {r c t j k i : Nat} {xs : List Int} (h : i = t ∨ mxC c xs i j = 0) : elimR r c t j (k + 1) i xs = elimR r c t j k (i + 1) xs := if_pos h
theorem elimR_on {r c t j k i : Nat} {xs : List Int} (h : ¬ (i = t ∨ mxC c xs i j = 0)) (h2 : rowN c (rdV j (mxC c xs i) (mxC c xs t)) = true) : elimR r c t j (k + 1) i xs = elimR r c t j k (i + 1) (rdL r c t j i xs) := by
  show (if i = t ∨ mxC c xs i j = 0 then _ else if rowN c _ = true then _ else _) = _
  rw [if_neg h, if_pos h2]
theorem elimR_bad {r c t j k i : Nat} {xs : List Int} (h : ¬ (i = t ∨ mxC c xs i j = 0)) (h2 : rowN c (rdV j (mxC c xs i) (mxC c xs t)) ≠ true) : elimR r c t j (k + 1) i xs = none := by
  show (if i = t ∨ mxC c xs i j = 0 then _ else if rowN c _ = true then _ else _) = _
  rw [if_neg h, if_neg h2]
theorem echC_end {r c k j : Nat} {xs : List Int} {pv : List Nat} (h : ¬ pv.length < r) : echC r c k j xs pv = some (xs, pv) := by
  cases k with
  | zero => rfl
  | succ k =>
    show (if pv.length < r then _ else some (xs, pv)) = _
    rw [if_neg h]
theorem echC_skip {r c k j : Nat} {xs : List Int} {pv : List Nat} (h : pv.length < r) (hf : fstR c j xs (r - pv.length) pv.length = r) : echC r c (k + 1) j xs pv = echC r c k (j + 1) xs pv := by
  show (if pv.length < r then if fstR c j xs (r - pv.length) pv.length = r then _ else _ else _) = _
  rw [if_pos h, if_pos hf]
theorem echC_none {r c k j p : Nat} {xs : List Int} {pv : List Nat} (h : pv.length < r) (hf : fstR c j xs (r - pv.length) pv.length = p) (hp : p ≠ r) (he : elimR r c pv.length j r 0 (swC p pv.length c xs) = none) : echC r c (k + 1) j xs pv = none := by
  show (if pv.length < r then if fstR c j xs (r - pv.length) pv.length = r then _ else match elimR r c pv.length j r 0 (swC (fstR c j xs (r - pv.length) pv.length) pv.length c xs) with | none => none | some ys => echC r c k (j + 1) ys (pv ++ [j]) else _) = _
  rw [if_pos h, hf, if_neg hp, he]
theorem echC_on {r c k j p : Nat} {xs ys : List Int} {pv : List Nat} (h : pv.length < r) (hf : fstR c j xs (r - pv.length) pv.length = p) (hp : p ≠ r) (he : elimR r c pv.length j r 0 (swC p pv.length c xs) = some ys) : echC r c (k + 1) j xs pv = echC r c k (j + 1) ys (pv ++ [j]) := by
  show (if pv.length < r then if fstR c j xs (r - pv.length) pv.length = r then _ else match elimR r c pv.length j r 0 (swC (fstR c j xs (r - pv.length) pv.length) pv.length c xs) with | none => none | some ys => echC r c k (j + 1) ys (pv ++ [j]) else _) = _
  rw [if_pos h, hf, if_neg hp, he]
theorem rdL_nums {r c t j i : Nat} {xs : List Int} (hx : xs.length = r * c) (hn : nums xs = true) (h2 : rowN c (rdV j (mxC c xs i) (mxC c xs t)) = true) : nums (rdL r c t j i xs) = true := rowL_nums hx hn fun _ hq => prV_num (rowN_iff.mp h2) hq
theorem rdL_length (r c t j i : Nat) (xs : List Int) : (rdL r c t j i xs).length = r * c := tab_length _ _ _
end Go.Proofs.Ytpknondccajinaa
