/-
  Texts of this seat, joined: Det3 · DetL · MatNew · UptoMath · MatS9 · OpDet · MulMath · SameMath · TurnMath · RingMath · LatU · PrimL · EchL · HmF
-/
import Derived.IntWalk
import Derived.StillTailTactics
import Derived.Test.YtpelnfenfeoeeaaRows
import Derived.Test.YtpelnfenfeoeeaaPk1
import Derived.Test.YtpelnfenfeoeeaaPk2

section
/-
  Elimination without fractions: the cells that are made are bordered minors, so each division is exact. Plain mathematics: nothing of a program is used.
-/
namespace Go.Proofs.Ytpelnfenfeoeeaa

/-- The first t rows and row i; the first t columns and column j. -/
def bdX (t i j : Nat) (A : Mx) : Mx := fun r c => A (if r < t then r else i) (if c < t then c else j)
/-- The bordered minor. -/
def bm (t i j : Nat) (A : Mx) : Int := det (t + 1) (bdX t i j A)
theorem bm_zero (i j : Nat) (A : Mx) : bm 0 i j A = A i j := by
  show 0 + sg 0 * bdX 0 i j A 0 0 * 1 = A i j
  rw [sg_zero]
  show 0 + 1 * A i j * 1 = A i j
  omega
theorem bm_diag (t : Nat) (A : Mx) : bm t t t A = det (t + 1) A := det_congr fun r c hr hc => by
  show A (if r < t then r else t) (if c < t then c else t) = A r c
  have e : ∀ k, k < t + 1 → (if k < t then k else t) = k := fun k hk => by
    by_cases h : k < t
    · rw [if_pos h]
    · rw [if_neg h]; omega
  rw [e r hr, e c hc]
theorem bm_tr (t i j : Nat) (A : Mx) : bm t i j (trX A) = bm t j i A := by
  unfold bm
  rw [← det_tr (t + 1) (bdX t j i A)]
  rfl
theorem bm_row {t i j : Nat} (A : Mx) (h : i < t) : bm t i j A = 0 :=
  alt_at (det_alt (t + 1)) (r := i) (s := t) (by omega) (by omega) (by omega) _ fun c _ => by
    show A (if i < t then i else i) _ = A (if t < t then t else i) _
    rw [if_pos h, if_neg (Nat.lt_irrefl t)]
theorem bm_col {t i j : Nat} (A : Mx) (h : j < t) : bm t i j A = 0 := by
  rw [← bm_tr, bm_row _ h]
/-- The factors of the rows in a bordered minor. -/
def kap (t i : Nat) (A : Mx) (s : Nat) : Int := sg (s + t) * det t (mnr (bdX t i 0 A) s t)
theorem skp_of_lt {j k : Nat} (h : k < j) : skp j k = k := if_pos h
theorem bm_comb (t i j : Nat) (A : Mx) : bm t i j A = det t A * A i j + sumN t fun s => kap t i A s * A s j := by
  unfold bm
  rw [det_col_at t _ t (by omega)]
  have e : ∀ s, s < t + 1 → det t (mnr (bdX t i j A) s t) = det t (mnr (bdX t i 0 A) s t) := fun s _ => det_congr fun r c _ hc => by
    show A _ (if skp t c < t then skp t c else j) = A _ (if skp t c < t then skp t c else 0)
    rw [skp_of_lt hc, if_pos hc, if_pos hc]
  show (sumN t fun s => sg (s + t) * bdX t i j A s t * det t (mnr (bdX t i j A) s t)) + sg (t + t) * bdX t i j A t t * det t (mnr (bdX t i j A) t t) = _
  have l : sg (t + t) * bdX t i j A t t * det t (mnr (bdX t i j A) t t) = det t A * A i j := by
    have e1 : bdX t i j A t t = A i j := by
      show A (if t < t then t else i) (if t < t then t else j) = _
      rw [if_neg (Nat.lt_irrefl t), if_neg (Nat.lt_irrefl t)]
    have e2 : det t (mnr (bdX t i j A) t t) = det t A := det_congr fun r c hr hc => by
      show A (if skp t r < t then skp t r else i) (if skp t c < t then skp t c else j) = A r c
      rw [skp_of_lt hr, skp_of_lt hc, if_pos hr, if_pos hc]
    rw [e1, e2, sg_add, sg_sq, Int.one_mul, Int.mul_comm]
  rw [l, Int.add_comm]
  congr 1
  refine sumN_congr fun s hs => ?_
  rw [e s (by omega)]
  have e1 : bdX t i j A s t = A s j := by
    show A (if s < t then s else i) (if t < t then t else j) = _
    rw [if_pos hs, if_neg (Nat.lt_irrefl t)]
  rw [e1]
  unfold kap
  grind
/-- Multiples of earlier rows are added to a multiple of row r. -/
theorem det_comb {n r m : Nat} (N : Mx) (x : Int) (k : Nat → Int) (hm : m ≤ r) (hr : r < n) : det n (stR N r fun c => x * N r c + sumN m fun s => k s * N s c) = x * det n N := by
  have h := det_lin n N r (N r) (fun c => sumN m fun s => k s * N s c) x 1 hr
  simp only [Int.one_mul] at h
  rw [h, stR_self, lin_sum (det_lin n) hr, sumN_all_zero]
  · omega
  · intro s hs
    rw [alt_at (det_alt n) (r := s) (s := r) (by omega) (by omega) hr _ (fun c _ => by rw [stR_at, stR_ne _ _ _ _ _ (by omega)]), Int.mul_zero]
theorem det_last {t : Nat} (M : Mx) (h : ∀ c, c < t → M t c = 0) : det (t + 1) M = M t t * det t M := by
  rw [det_row_at t M t (by omega), sumN_one (a := t) (by omega)]
  · have e : det t (mnr M t t) = det t M := det_congr fun r c hr hc => by
      show M (skp t r) (skp t c) = M r c
      rw [skp_of_lt hr, skp_of_lt hc]
    rw [e, sg_add, sg_sq, Int.one_mul]
  · intro c hc hne
    rw [h c (by omega), Int.mul_zero, Int.zero_mul]
/-- Each division of the elimination is exact. -/
theorem sylvester (t i j : Nat) (A : Mx) (h : det t A ≠ 0) : det t A * bm (t + 1) i j A = bm t t t A * bm t i j A - bm t i t A * bm t t j A := by
  obtain ⟨L, hL⟩ : ∃ L, det t A = L := ⟨_, rfl⟩
  have col : ∀ c, c < t + 2 → ∀ r, r < t → bdX (t + 1) i j A r c = A r (if c < t + 1 then c else j) := fun c _ r hr => by
    show A (if r < t + 1 then r else i) _ = _
    rw [if_pos (by omega)]
  obtain ⟨N, hN⟩ : ∃ N, bdX (t + 1) i j A = N := ⟨_, rfl⟩
  have rt : ∀ c, N t c = A t (if c < t + 1 then c else j) := fun c => by
    rw [← hN]
    show A (if t < t + 1 then t else i) _ = _
    rw [if_pos (by omega)]
  have rt1 : ∀ c, N (t + 1) c = A i (if c < t + 1 then c else j) := fun c => by
    rw [← hN]
    show A (if t + 1 < t + 1 then t + 1 else i) _ = _
    rw [if_neg (by omega)]
  rw [hN] at col
  obtain ⟨N1, hN1⟩ : ∃ M, (stR N t fun c => L * N t c + sumN t fun s => kap t t A s * N s c) = M := ⟨_, rfl⟩
  obtain ⟨N2, hN2⟩ : ∃ M, (stR N1 (t + 1) fun c => L * N1 (t + 1) c + sumN t fun s => kap t i A s * N1 s c) = M := ⟨_, rfl⟩
  have d1 : det (t + 2) N1 = L * det (t + 2) N := by rw [← hN1]; exact det_comb N L _ (Nat.le_refl t) (by omega)
  have d2 : det (t + 2) N2 = L * det (t + 2) N1 := by rw [← hN2]; exact det_comb N1 L _ (by omega) (by omega)
  have q : ∀ r, r < t → ∀ c, N1 r c = N r c := fun r hr c => by rw [← hN1]; exact stR_ne _ _ _ _ _ (by omega)
  have e0 : ∀ r, r < t → ∀ c, c < t + 2 → N2 r c = A r (if c < t + 1 then c else j) := fun r hr c hc => by
    rw [← hN2, stR_ne _ _ _ _ _ (by omega), q r hr, col c hc r hr]
  have e1 : ∀ c, c < t + 2 → N2 t c = bm t t (if c < t + 1 then c else j) A := fun c hc => by
    rw [← hN2, stR_ne _ _ _ _ _ (by omega), ← hN1, stR_at, bm_comb, hL, rt]
    congr 1
    exact sumN_congr fun s hs => by rw [col c hc s hs]
  have e2 : ∀ c, c < t + 2 → N2 (t + 1) c = bm t i (if c < t + 1 then c else j) A := fun c hc => by
    have : N1 (t + 1) c = N (t + 1) c := by rw [← hN1]; exact stR_ne _ _ _ _ _ (by omega)
    rw [← hN2, stR_at, bm_comb, hL, this, rt1]
    congr 1
    exact sumN_congr fun s hs => by rw [q s hs, col c hc s hs]
  have z1 : ∀ c, c < t → N2 t c = 0 := fun c hc => by rw [e1 c (by omega), if_pos (by omega), bm_col A hc]
  have z2 : ∀ c, c < t → N2 (t + 1) c = 0 := fun c hc => by rw [e2 c (by omega), if_pos (by omega), bm_col A hc]
  have m1 : det (t + 1) (mnr N2 (t + 1) (t + 1)) = bm t t t A * L := by
    rw [det_last]
    · have a1 : mnr N2 (t + 1) (t + 1) t t = bm t t t A := by
        show N2 (skp (t + 1) t) (skp (t + 1) t) = _
        rw [skp_of_lt (by omega), e1 t (by omega), if_pos (by omega)]
      have a2 : det t (mnr N2 (t + 1) (t + 1)) = L := by
        rw [← hL]
        refine det_congr fun r c hr hc => ?_
        show N2 (skp (t + 1) r) (skp (t + 1) c) = _
        rw [skp_of_lt (by omega), skp_of_lt (by omega), e0 r hr c (by omega), if_pos (by omega)]
      rw [a1, a2]
    · intro c hc
      show N2 (skp (t + 1) t) (skp (t + 1) c) = 0
      rw [skp_of_lt (by omega), skp_of_lt (by omega), z1 c hc]
  have m2 : det (t + 1) (mnr N2 (t + 1) t) = bm t t j A * L := by
    rw [det_last]
    · have a1 : mnr N2 (t + 1) t t t = bm t t j A := by
        show N2 (skp (t + 1) t) (skp t t) = _
        have : skp t t = t + 1 := by unfold skp; rw [if_neg (by omega)]
        rw [skp_of_lt (by omega), this, e1 (t + 1) (by omega), if_neg (by omega)]
      have a2 : det t (mnr N2 (t + 1) t) = L := by
        rw [← hL]
        refine det_congr fun r c hr hc => ?_
        show N2 (skp (t + 1) r) (skp t c) = _
        rw [skp_of_lt (by omega), skp_of_lt hc, e0 r hr c (by omega), if_pos (by omega)]
      rw [a1, a2]
    · intro c hc
      show N2 (skp (t + 1) t) (skp t c) = 0
      rw [skp_of_lt (by omega), skp_of_lt hc, z1 c hc]
  have d3 : det (t + 2) N2 = L * (bm t t t A * bm t i j A - bm t i t A * bm t t j A) := by
    rw [det_row_at (t + 1) N2 (t + 1) (by omega), sumN_two (a := t) (b := t + 1) (by omega) (by omega)]
    · have s1 : sg (t + 1 + t) = -1 := by rw [sg_add, sg_succ, Int.neg_mul, sg_sq]
      have s2 : sg (t + 1 + (t + 1)) = 1 := by rw [sg_add, sg_sq]
      rw [m1, m2, e2 t (by omega), e2 (t + 1) (by omega), if_pos (by omega), if_neg (by omega), s1, s2]
      grind
    · intro c hc h1 h2
      rw [z2 c (by omega), Int.mul_zero, Int.zero_mul]
  have bN : bm (t + 1) i j A = det (t + 2) N := by rw [← hN]; rfl
  rw [hL, bN]
  rw [hL] at h
  have fin : L * (L * det (t + 2) N) = L * (bm t t t A * bm t i j A - bm t i t A * bm t t j A) := by rw [← d1, ← d2, d3]
  exact Int.eq_of_mul_eq_mul_left h fin
/-- Where no row has a pivot the determinant is 0. -/
theorem no_pivot {t n : Nat} (A : Mx) (ht : t < n) (h : det t A ≠ 0) (hz : ∀ i, t ≤ i → i < n → bm t i t A = 0) : det n A = 0 := by
  have h1 : ∀ i, i < n → det t A * A i t + (sumN t fun s => kap t t (trX A) s * A i s) = 0 := fun i hi => by
    have e := bm_comb t t i (trX A)
    rw [bm_tr, det_tr] at e
    have e2 : bm t i t A = 0 := by
      rcases Nat.lt_or_ge i t with hlt | hge
      · exact bm_row A hlt
      · exact hz i hge hi
    rw [e2] at e
    exact e.symm
  have h2 := det_comb (n := n) (r := t) (m := t) (trX A) (det t A) (kap t t (trX A)) (Nat.le_refl t) ht
  have h3 : det n (stR (trX A) t fun c => det t A * trX A t c + sumN t fun s => kap t t (trX A) s * trX A s c) = det n (stR (trX A) t fun _ => 0) := det_congr fun r c _ hc => by
    unfold stR
    by_cases e : r = t
    · rw [if_pos e, if_pos e]; exact h1 c hc
    · rw [if_neg e, if_neg e]
  rw [h3, lin_zero (det_lin n) ht, det_tr] at h2
  rcases Int.mul_eq_zero.mp h2.symm with h4 | h4
  · exact absurd h4 h
  · exact h4
/-- Two rows from t on change places. -/
theorem bm_swap {t p i j : Nat} (A : Mx) (hp : t ≤ p) : bm t i j (swR A t p) = bm t (if i = t then p else if i = p then t else i) j A := det_congr fun r c _ _ => by
  show swR A t p (if r < t then r else i) _ = A (if r < t then r else _) _
  unfold swR
  by_cases hr : r < t
  · rw [if_pos hr, if_pos hr, if_neg (by omega), if_neg (by omega)]
  · rw [if_neg hr, if_neg hr]
    by_cases h1 : i = t
    · rw [if_pos h1, if_pos h1]
    · rw [if_neg h1, if_neg h1]
      by_cases h2 : i = p
      · rw [if_pos h2, if_pos h2]
      · rw [if_neg h2, if_neg h2]
theorem det_swap_low {t p : Nat} (A : Mx) (hp : t ≤ p) : det t (swR A t p) = det t A := det_congr fun r c hr _ => by
  unfold swR
  rw [if_neg (by omega), if_neg (by omega)]
end Go.Proofs.Ytpelnfenfeoeeaa
end

section
/-
  Plain mathematics of chapter 6: the determinant by expansion along the first row, with a mark where one that is met is beyond the limit. Nothing of a program is used.
-/
namespace Go.Proofs.Ytpelnfenfeoeeaa

/-- The matrix of a list of cells. -/
def mxL (n : Nat) (xs : List Int) : Mx := fun r c => xs.getD (r * n + c) 0
theorem mxL_tab (n : Nat) (f : Nat → Nat → Int) : EqX n (mxL n (tab n n f)) f := fun _ _ hr hc => tab_at n n f hr hc
/-- The sum of the first columns, unless a minor that is met has the mark. -/
def detAcc (g f : Nat → Int) : Nat → Option Int
  | 0 => some 0
  | j + 1 => match detAcc g f j with
    | none => none
    | some s => if g j = 0 then some s else if f j = badN then none else some (s + sg j * g j * f j)
theorem detAcc_skip {g f : Nat → Int} {j : Nat} {s : Int} (h : detAcc g f j = some s) (h0 : g j = 0) : detAcc g f (j + 1) = some s := by
  show (match detAcc g f j with | none => _ | some s => _) = _
  rw [h]
  exact if_pos h0
theorem detAcc_bad {g f : Nat → Int} {j : Nat} {s : Int} (h : detAcc g f j = some s) (h0 : g j ≠ 0) (h1 : f j = badN) : detAcc g f (j + 1) = none := by
  show (match detAcc g f j with | none => _ | some s => _) = _
  rw [h]
  show (if g j = 0 then _ else _) = _
  rw [if_neg h0, if_pos h1]
theorem detAcc_add {g f : Nat → Int} {j : Nat} {s : Int} (h : detAcc g f j = some s) (h0 : g j ≠ 0) (h1 : f j ≠ badN) : detAcc g f (j + 1) = some (s + sg j * g j * f j) := by
  show (match detAcc g f j with | none => _ | some s => _) = _
  rw [h]
  show (if g j = 0 then _ else _) = _
  rw [if_neg h0, if_neg h1]
theorem detAcc_none_succ {g f : Nat → Int} {j : Nat} (h : detAcc g f j = none) : detAcc g f (j + 1) = none := by
  show (match detAcc g f j with | none => _ | some s => _) = _
  rw [h]
theorem detAcc_none {g f : Nat → Int} {j k : Nat} (h : detAcc g f j = none) (hk : j ≤ k) : detAcc g f k = none := by
  induction k with
  | zero => obtain rfl : j = 0 := by omega
            exact h
  | succ k ih =>
    rcases Nat.lt_or_ge k j with h1 | h1
    · obtain rfl : j = k + 1 := by omega
      exact h
    · exact detAcc_none_succ (ih h1)
theorem detAcc_sum {g f : Nat → Int} {k : Nat} : ∀ {s : Int}, detAcc g f k = some s → s = sumN k fun j => sg j * g j * f j := by
  induction k with
  | zero => intro s h; exact (Option.some.inj h).symm
  | succ k ih =>
    intro s h
    cases h1 : detAcc g f k with
    | none => rw [detAcc_none_succ h1] at h; cases h
    | some s1 =>
      show s = sumN k _ + sg k * g k * f k
      by_cases h0 : g k = 0
      · rw [detAcc_skip h1 h0] at h
        rw [← Option.some.inj h, ih h1, h0, Int.mul_zero, Int.zero_mul, Int.add_zero]
      · by_cases h2 : f k = badN
        · rw [detAcc_bad h1 h0 h2] at h; cases h
        · rw [detAcc_add h1 h0 h2] at h
          rw [← Option.some.inj h, ih h1]
theorem detAcc_met {g f : Nat → Int} {k : Nat} : ∀ {s : Int}, detAcc g f k = some s → ∀ j, j < k → g j ≠ 0 → f j ≠ badN := by
  induction k with
  | zero => intro s _ j hj; omega
  | succ k ih =>
    intro s h j hj h0 h2
    cases h1 : detAcc g f k with
    | none => rw [detAcc_none_succ h1] at h; cases h
    | some s1 =>
      rcases Nat.lt_or_ge j k with h3 | h3
      · exact ih h1 j h3 h0 h2
      · obtain rfl : j = k := by omega
        rw [detAcc_bad h1 h0 h2] at h; cases h
theorem sg_or (k : Nat) : sg k = 1 ∨ sg k = -1 := by unfold sg; split <;> simp
theorem sg_num {k : Nat} {x : Int} (h : NumP x) : NumP (sg k * x) := by
  unfold NumP at *
  rcases sg_or k with e | e <;> rw [e] <;> omega
theorem detAcc_bd {g f : Nat → Int} {k : Nat} (hg : ∀ j, j < k → NumP (g j)) (hf : ∀ j, j < k → f j = badN ∨ NumP (f j)) : ∀ {s : Int}, detAcc g f k = some s → -((k : Int) * 160000000000000000) ≤ s ∧ s ≤ (k : Int) * 160000000000000000 := by
  induction k with
  | zero => intro s h; rw [← Option.some.inj h]; omega
  | succ k ih =>
    intro s h
    cases h1 : detAcc g f k with
    | none => rw [detAcc_none_succ h1] at h; cases h
    | some s1 =>
      have b := ih (fun j hj => hg j (by omega)) (fun j hj => hf j (by omega)) h1
      by_cases h0 : g k = 0
      · rw [detAcc_skip h1 h0] at h
        rw [← Option.some.inj h]; omega
      · by_cases h2 : f k = badN
        · rw [detAcc_bad h1 h0 h2] at h; cases h
        · rw [detAcc_add h1 h0 h2] at h
          have m := mul_num _ _ (sg_num (k := k) (hg k (by omega))) ((hf k (by omega)).resolve_left h2)
          rw [← Option.some.inj h]; omega
/-- The determinant of n rows, or the mark. -/
def detB : Nat → List Int → Int
  | 0, _ => 1
  | n + 1, xs => match detAcc (fun j => xs.getD j 0) (fun j => detB n (woL (n + 1) (0 : Int) (j : Int) xs ((n + 1) * (n + 1)))) (n + 1) with
    | none => badN
    | some s => fitB s
/-- The minors of the first row, with marks. -/
def mnB (n : Nat) (xs : List Int) (j : Nat) : Int := detB n (woL (n + 1) (0 : Int) (j : Int) xs ((n + 1) * (n + 1)))
theorem detB_none {n : Nat} {xs : List Int} (h : detAcc (fun j => xs.getD j 0) (mnB n xs) (n + 1) = none) : detB (n + 1) xs = badN := by
  show (match detAcc (fun j => xs.getD j 0) (mnB n xs) (n + 1) with | none => badN | some s => fitB s) = _
  rw [h]
theorem detB_some {n : Nat} {xs : List Int} {s : Int} (h : detAcc (fun j => xs.getD j 0) (mnB n xs) (n + 1) = some s) : detB (n + 1) xs = fitB s := by
  show (match detAcc (fun j => xs.getD j 0) (mnB n xs) (n + 1) with | none => badN | some s => fitB s) = _
  rw [h]
theorem fitB_or (z : Int) : fitB z = badN ∨ NumP (fitB z) := by
  unfold fitB
  by_cases h : NumP z
  · rw [if_pos h]; exact .inr h
  · rw [if_neg h]; exact .inl rfl
theorem detB_or (n : Nat) (xs : List Int) : detB n xs = badN ∨ NumP (detB n xs) := by
  cases n with
  | zero => exact .inr (by show NumP 1; decide)
  | succ n =>
    cases h : detAcc (fun j => xs.getD j 0) (mnB n xs) (n + 1) with
    | none => exact .inl (detB_none h)
    | some s => rw [detB_some h]; exact fitB_or s
theorem mxL_woL {n : Nat} {xs : List Int} {i j : Nat} (hi : i < n + 1) (hj : j < n + 1) : EqX n (mxL n (woL (n + 1) (i : Int) (j : Int) xs ((n + 1) * (n + 1)))) (mnr (mxL (n + 1) xs) i j) := by
  rw [woL_tab n i j xs hi hj]
  exact mxL_tab n _
theorem woL_sq {n : Nat} {xs : List Int} {i j : Nat} (hi : i < n + 1) (hj : j < n + 1) : (woL (n + 1) (i : Int) (j : Int) xs ((n + 1) * (n + 1))).length = n * n := by rw [woL_tab n i j xs hi hj, tab_length]
/-- Without the mark, it is the determinant. -/
theorem detB_det (n : Nat) : ∀ xs : List Int, detB n xs ≠ badN → detB n xs = det n (mxL n xs) := by
  induction n with
  | zero => intro xs _; rfl
  | succ n ih =>
    intro xs hb
    cases h : detAcc (fun j => xs.getD j 0) (mnB n xs) (n + 1) with
    | none => exact absurd (detB_none h) hb
    | some s =>
      rw [detB_some h] at hb ⊢
      have e : fitB s = s := by
        unfold fitB at hb ⊢
        by_cases hs : NumP s
        · rw [if_pos hs]
        · rw [if_neg hs] at hb; exact absurd rfl hb
      rw [e, detAcc_sum h, det_row]
      refine sumN_congr fun j hj => ?_
      have e0 : mxL (n + 1) xs 0 j = xs.getD j 0 := by unfold mxL; rw [Nat.zero_mul, Nat.zero_add]
      rw [e0]
      by_cases h0 : xs.getD j 0 = 0
      · simp only [h0, Int.mul_zero, Int.zero_mul]
      · have hm := detAcc_met h j hj h0
        have := ih _ hm
        show sg j * xs.getD j 0 * detB n _ = _
        rw [this, det_congr (show EqX n (mxL n (woL (n + 1) (0 : Int) (j : Int) xs ((n + 1) * (n + 1)))) (mnr (mxL (n + 1) xs) 0 j) from mxL_woL (i := 0) (by omega) hj)]
theorem woL_nums {n : Nat} {xs : List Int} {i j : Nat} (hi : i < n + 1) (hj : j < n + 1) (h : nums xs = true) : nums (woL (n + 1) (i : Int) (j : Int) xs ((n + 1) * (n + 1))) = true := by
  rw [woL_tab n i j xs hi hj]
  refine nums_true fun p hp => ?_
  rw [tab_length] at hp
  have hn : 0 < n := by
    rcases Nat.eq_zero_or_pos n with e | e
    · subst e; omega
    · exact e
  have e : p = p / n * n + p % n := by rw [Nat.mul_comm]; exact (Nat.div_add_mod p n).symm
  rw [e, tab_at n n _ (Nat.div_lt_of_lt_mul hp) (Nat.mod_lt p hn)]
  rcases Nat.lt_or_ge (skp i (p / n) * (n + 1) + skp j (p % n)) xs.length with h1 | h1
  · exact nums_at h h1
  · rw [List.getD, List.getElem?_eq_none h1]; exact ⟨by decide, by decide⟩
/-- What DeterminantOf answers, for a square matrix. -/
def detM (n : Nat) (xs : List Int) : Int × Bool := if detB n xs = badN then (0, false) else (detB n xs, true)
end Go.Proofs.Ytpelnfenfeoeeaa
end

section
/-
  Chapter 3, in the model: a matrix of zeros.
-/
namespace Go.Proofs.Ytpelnfenfeoeeaa
open Go.RowKit

theorem sNew (R C : Nat) (w : World) (hR : R ≤ 4096) (hC : C ≤ 4096) :
    Calls Try.prog 106 #[.int .i64 R, .int .i64 C] w (NewMat R C (List.replicate (R * C) 0) w) := by
  have hm : R * C ≤ 4096 * 4096 := Nat.mul_le_mul hR hC
  have hmk := makeProd R C (by omega)
  have hp1 : (0 : Int) ≤ (R : Int) * (C : Int) := by rw [← Int.natCast_mul]; omega
  have hp2 : (R : Int) * (C : Int) ≤ 16777216 := by rw [← Int.natCast_mul]; omega
  go_enter Try.func106, Try.ntmps106
  go_wp2_with fail
  refine bodyPost_ret (v := .agg #[.int .i64 R, .int .i64 C, .slice (some ⟨w.heap.size + 1, 0, none⟩) (R * C) (R * C)]) (by simp [results, Try.results106, go_sem]) rfl ⟨w.heap.size + 1, by simp, by omega, ?_, ?_⟩
  · exact Ints.made _ (by simp)
  · exact ((Below.refl _ _).alloc (Nat.le_refl _) _).alloc (by simp) _
end Go.Proofs.Ytpelnfenfeoeeaa
end

section
/-
  Plain mathematics: a row that is filled from the left.
-/
namespace Go.Proofs.Ytpelnfenfeoeeaa

/-- What has been filled in up to k. -/
def upto (n k : Nat) (f : Nat → Int) : List Int := (List.range n).map fun i => if i < k then f i else 0
theorem upto_length (n k : Nat) (f : Nat → Int) : (upto n k f).length = n := by simp [upto]
theorem upto_zero (n : Nat) (f : Nat → Int) : upto n 0 f = List.replicate n 0 := by
  apply List.ext_getElem (by simp [upto])
  intro i h1 h2
  simp [upto]
theorem upto_all (n : Nat) (f : Nat → Int) : upto n n f = (List.range n).map f := by
  apply List.ext_getElem (by simp [upto])
  intro i h1 h2
  have : i < n := by simpa [upto] using h1
  simp [upto, this]
theorem upto_at (n k : Nat) (f : Nat → Int) : (upto n k f).getD k 0 = 0 := by
  unfold upto List.getD
  rcases Nat.lt_or_ge k n with h | h
  · simp [h]
  · simp [h]
theorem upto_step (n k : Nat) (f : Nat → Int) : (upto n k f).set k (f k) = upto n (k + 1) f := by
  apply List.ext_getElem (by simp [upto])
  intro i h1 h2
  have hi : i < n := by simpa [upto] using h2
  rw [List.getElem_set]
  by_cases e : k = i
  · subst e; simp [upto]
  · simp only [e, if_false]
    simp only [upto, List.getElem_map, List.getElem_range]
    by_cases h3 : i < k
    · rw [if_pos h3, if_pos (by omega)]
    · rw [if_neg h3, if_neg (by omega)]
end Go.Proofs.Ytpelnfenfeoeeaa
end

section
/-
  Chapter 3, in the model: IdentityMatrix.
-/
namespace Go.Proofs.Ytpelnfenfeoeeaa
open Go.RowKit

/-- Zeros, and ones in the first k places of the diagonal. -/
def idL (n k : Nat) : List Int := (List.range (n * n)).map fun j => if j % (n + 1) = 0 ∧ j < k * (n + 1) then 1 else 0
theorem idL_length (n k : Nat) : (idL n k).length = n * n := by simp [idL]
theorem idL_zero (n : Nat) : idL n 0 = List.replicate (n * n) 0 := by
  apply List.ext_getElem (by simp [idL])
  intro i h1 h2
  simp [idL]
theorem idL_at (n k : Nat) : (idL n k).getD (k * n + k) 0 = 0 := by
  have e : k * n + k = k * (n + 1) := (Nat.mul_succ k n).symm
  rw [e]
  unfold idL List.getD
  rcases Nat.lt_or_ge (k * (n + 1)) (n * n) with h | h
  · simp [h]
  · simp [h]
theorem idL_step (n k : Nat) : (idL n k).set (k * n + k) 1 = idL n (k + 1) := by
  have e : k * n + k = k * (n + 1) := (Nat.mul_succ k n).symm
  rw [e]
  apply List.ext_getElem (by simp [idL])
  intro i h1 h2
  have hi : i < n * n := by simpa [idL] using h2
  rw [List.getElem_set]
  by_cases hk : k * (n + 1) = i
  · rw [if_pos hk]
    have h3 : i % (n + 1) = 0 := by rw [← hk]; exact Nat.mul_mod_left _ _
    have h4 : i < (k + 1) * (n + 1) := by rw [← hk, Nat.succ_mul]; omega
    simp [idL, h3, h4]
  · rw [if_neg hk]
    have h5 : (i % (n + 1) = 0 ∧ i < k * (n + 1)) ↔ (i % (n + 1) = 0 ∧ i < (k + 1) * (n + 1)) := by
      constructor
      · rintro ⟨a, b⟩; exact ⟨a, by rw [Nat.succ_mul]; omega⟩
      · rintro ⟨a, b⟩
        refine ⟨a, ?_⟩
        obtain ⟨q, hq⟩ := Nat.dvd_of_mod_eq_zero a
        rw [Nat.mul_comm] at hq
        rw [hq] at b ⊢
        have := Nat.lt_of_mul_lt_mul_right b
        have hne : q ≠ k := by rintro rfl; exact hk hq.symm
        exact Nat.mul_lt_mul_of_pos_right (by omega) (by omega)
    simp only [idL, List.getElem_map, List.getElem_range, h5]
def idM (n : Int) : MR := if 0 ≤ n ∧ n ≤ 24 then ⟨true, n, n, idL n.toNat n.toNat⟩ else MR.no

set_option maxHeartbeats 1000000 in
theorem sIdent_t (n : Nat) (w : World) (hn : n ≤ 24) :
    Calls Try.prog 55 #[.int .i64 n] w (MatRes ⟨true, n, n, idL n n⟩ w) := by
  have hle : n * n ≤ 24 * 24 := Nat.mul_le_mul hn hn
  have B0 : ∀ o1, Below w.heap.size w (w.alloc o1) := fun o1 => (Below.refl _ _).alloc (Nat.le_refl _) _
  have BH := Lib.hid B0
  clear B0
  go_enter Try.func55, Try.ntmps55
  go_wp2_with fail
  refine (sIn_t n 0 24 _ (by omega) (by omega)).mono ?_
  rintro e w2 ⟨rfl, rfl⟩
  go_wp2_with fail
  have K2 : Hid (Blk3 (w.alloc (.cells #[.int .i64 0, .int .i64 0, .slice none 0 0] 26)) w.heap.size 26 (.int .i64 0) (.int .i64 0) (.slice none 0 0)) := Blk3.at_ _ _ _ _ rfl
  have B := Lib.hid (BH.out (.cells #[.int .i64 0, .int .i64 0, .slice none 0 0] 26))
  refine (sNew n n _ (by omega) (by omega)).mono ?_
  rintro e w3 ⟨g, rfl, hg, hi, hb⟩
  have l2 := Nat.lt_of_lt_of_le K2.out.lt hg
  clear hg
  obtain ⟨N, hN⟩ : ∃ N, n * n = N := ⟨_, rfl⟩
  have HN := Lib.hid hN
  rw [hN] at hi hle ⊢
  clear hN
  have K2 := Lib.hid (K2.out.keep hb K2.out.lt)
  have B := Lib.hid (B.out.trans (hb.mono B.out.size))
  have I := Lib.hid hi
  have gl := hi.lt
  clear hb hi
  simp only [List.length_replicate]
  have BA : Hid (Below w.heap.size w (w3.alloc (.cells #[.int .i64 n, .int .i64 n, .slice (some ⟨g, 0, none⟩) N N] 26))) := B.out.alloc B.out.size _
  have K2 := Lib.hid (K2.out.old (.cells #[.int .i64 n, .int .i64 n, .slice (some ⟨g, 0, none⟩) N N] 26))
  have K6 : Hid (Blk3 (w3.alloc (.cells #[.int .i64 n, .int .i64 n, .slice (some ⟨g, 0, none⟩) N N] 26)) w3.heap.size 26 (.int .i64 n) (.int .i64 n) (.slice (some ⟨g, 0, none⟩) N N)) := Blk3.at_ _ _ _ _ rfl
  have I := Lib.hid (I.out.old (.cells #[.int .i64 n, .int .i64 n, .slice (some ⟨g, 0, none⟩) N N] 26))
  go_wp2_with fail
  go_loopw [5] (fun i wr => ∃ k : Nat, i = .int .i64 k ∧ k ≤ n ∧ Ints wr g (idL n k) ∧ (w3.alloc (.cells #[.int .i64 n, .int .i64 n, .slice (some ⟨g, 0, none⟩) N N] 26)).grownBy wr (some g)) (fun i _ => n - (intOf i).toNat)
  case atStart => exact ⟨0, rfl, by omega, by rw [idL_zero, HN.out]; exact I.out, World.grownBy.refl _ _⟩
  case round =>
    obtain ⟨k, rfl, hk, hi, hgr⟩ := hrel
    have I := Lib.hid hi
    have G := Lib.hid hgr
    clear hi hgr
    have R2 := Lib.hid (K2.out.keepOne G.out (by omega))
    have R6 := Lib.hid (K6.out.keepOne G.out (by omega))
    obtain ⟨r0, r1, r2, -, -, -⟩ := R6.out.all
    by_cases hlt : k < n
    · have i1 : k * n + k < N := by rw [← HN.out]; exact idx_lt hlt hlt
      have hold := I.out.cell (i := k * n + k) (by rw [idL_length, HN.out]; exact i1)
      rw [idL_at] at hold
      have hfr := I.out.free (k * n + k)
      have c1 : (k : Int) * (n : Int) = ((k * n : Nat) : Int) := (Int.natCast_mul _ _).symm
      have d1 : 0 ≤ (k : Int) * (n : Int) ∧ (k : Int) * (n : Int) ≤ 600 := by rw [c1]; omega
      have e1 : 0 ≤ (k : Int) * (n : Int) + (k : Int) := by omega
      have e2 : (k : Int) * (n : Int) + (k : Int) < (N : Int) := by rw [c1]; omega
      have e3 : ((k : Int) * (n : Int) + (k : Int)).toNat = k * n + k := by rw [c1]; omega
      obtain ⟨d11, d12⟩ := d1
      have v1 : IntKind.i64.wrap ((k : Int) * (n : Int)) = (k : Int) * (n : Int) := IntWalk.i64_in _ (by omega)
      have v2 : IntKind.i64.wrap ((k : Int) * (n : Int) + (k : Int)) = (k : Int) * (n : Int) + (k : Int) := IntWalk.i64_in _ (by omega)
      clear c1
      go_wp2_with fail
      go_roundw
      case rel =>
        refine ⟨k + 1, by go_num, by omega, ?_, ?_⟩
        · rw [← idL_step]
          first | exact I.out.set (k * n + k) _ | exact I.out.drew.set (k * n + k) _
        · first | exact grown_set_one G.out rfl _ | exact grown_drew_one (grown_set_one G.out rfl _)
      case measure => simp [intOf]; omega
    · have hkn : k = n := by omega
      subst hkn
      have BW := Lib.hid (BA.out.trans (below_of_one G.out (by omega) BA.out.size))
      obtain ⟨s0, s1, s2, t0, t1, t2⟩ := R2.out.all
      go_wp2_with fail
      obtain ⟨E0, E1, E2, -, -, -⟩ := (((R2.out.set0 (.int .i64 k)).set1 (.int .i64 k)).set2 (.slice (some ⟨g, 0, none⟩) N N)).all
      refine bodyPost_ret (v := .tuple #[.agg #[.int .i64 k, .int .i64 k, .slice (some ⟨g, 0, none⟩) N N], .bool true]) (by simp [results, Try.results55, go_sem, E0, E1, E2]) rfl ⟨_, rfl, ?_, ?_⟩
      · refine .inr ⟨g, N, by rw [idL_length, HN.out], by omega, ?_, by simp [idL_length, HN.out], by simp [idL_length, HN.out]; omega⟩
        exact ((I.out.far (by show g ≠ w.heap.size; omega) _).far (by show g ≠ w.heap.size; omega) _).far (by show g ≠ w.heap.size; omega) _
      · exact ((BW.out.setCell (Nat.le_refl _) _).setCell (Nat.le_refl _) _).setCell (Nat.le_refl _) _
theorem sIdent (n : Int) (w : World) : Calls Try.prog 55 #[.int .i64 n] w (MatRes (idM n) w) := by
  by_cases h : 0 ≤ n ∧ n ≤ 24
  · obtain ⟨k, rfl⟩ := Int.eq_ofNat_of_zero_le h.1
    have E : idM k = ⟨true, k, k, idL k k⟩ := by unfold idM; rw [if_pos h]; rfl
    rw [E]
    exact sIdent_t k w (by omega)
  · have E : Hid (idM n = MR.no) := by show idM n = _; unfold idM; rw [if_neg h]
    have h' : n < 0 ∨ 24 < n := by omega
    clear h
    have B0 : ∀ o1, Below w.heap.size w (w.alloc o1) := fun o1 => (Below.refl _ _).alloc (Nat.le_refl _) _
    have BH := Lib.hid B0
    clear B0
    go_enter Try.func55, Try.ntmps55
    go_wp2_with fail
    refine (sIn_f n 0 24 _ h').mono ?_
    rintro e w2 ⟨rfl, rfl⟩
    have K2 : Hid (Blk3 (w.alloc (.cells #[.int .i64 0, .int .i64 0, .slice none 0 0] 26)) w.heap.size 26 (.int .i64 0) (.int .i64 0) (.slice none 0 0)) := Blk3.at_ _ _ _ _ rfl
    have B := Lib.hid (BH.out (.cells #[.int .i64 0, .int .i64 0, .slice none 0 0] 26))
    obtain ⟨s0, s1, s2, t0, t1, t2⟩ := K2.out.all
    go_wp2_with fail
    rw [E.out]
    exact bodyPost_ret (v := .tuple #[.agg #[.int .i64 0, .int .i64 0, .slice none 0 0], .bool false]) (by simp [results, Try.results55, go_sem]) rfl ⟨_, rfl, .inl ⟨rfl, rfl⟩, B.out⟩
end Go.Proofs.Ytpelnfenfeoeeaa
end

section
/-
  Plain mathematics of chapters 5 and 6: what operations on rows do to the determinant. Nothing of a program is used.
-/
namespace Go.Proofs.Ytpelnfenfeoeeaa

theorem opL_getD {k : Int} {I J : Nat} {t : Int} {C : Nat} {xs : List Int} {p : Nat} (hp : p < xs.length) : (opL k I J t C xs).getD p 0 = opAt k I J t C xs p := by
  unfold opL
  simp only [List.getD, List.getElem?_map, List.getElem?_range hp, Option.map_some, Option.getD_some]
/-- If all cells are numbers in the end, no cell has a mark. -/
theorem opL_raw {k : Int} {I J : Nat} {t : Int} {R C : Nat} {xs : List Int} (hk : k = 0 ∨ k = 1 ∨ k = 2) (hl : xs.length = R * C) (hx : nums xs = true) (hI : I < R) (ht : NumP t) (hn : nums (opL k I J t C xs) = true) (p : Nat) (hp : p < R * C) :
    (opL k I J t C xs).getD p 0 = rwAt k I J t C xs p := by
  have hpr : ∀ q, q < C → k = 2 → NumP (xs.getD (J * C + q) 0 * t) := by
    intro q hq h2
    subst h2
    by_cases hb : NumP (xs.getD (J * C + q) 0 * t)
    · exact hb
    · exfalso
      have hi : I * C + q < xs.length := by rw [hl]; exact idx_lt hI hq
      have e : (opL 2 I J t C xs).getD (I * C + q) 0 = badN := by
        rw [opL_getD hi, opAt_two _ _ _ _ _ hq, mulB_num (nums_def hx _) ht, fitB_bad hb, addB_bad]
      have := nums_at hn (j := I * C + q) (by rw [opL_length]; exact hi)
      rw [e] at this
      exact bad_not this
  have hC : 0 < C := by
    rcases Nat.eq_zero_or_pos C with e | e
    · subst e; omega
    · exact e
  have hp' : p < xs.length := by rw [hl]; exact hp
  have h1 := nums_at hn (j := p) (by rw [opL_length]; exact hp')
  rw [opL_getD hp', opAt_raw k I J t C xs p hk hx ht (fun h2 _ => hpr _ (Nat.mod_lt p hC) h2)] at h1 ⊢
  by_cases hz : NumP (rwAt k I J t C xs p)
  · exact fitB_num hz
  · rw [fitB_bad hz] at h1; exact absurd h1 bad_not
/-- An operation on rows, over matrices. -/
def opX (k : Int) (I J : Nat) (t : Int) (A : Mx) : Mx := fun r c =>
  if k = 0 then (if r = I then A J c else if r = J then A I c else A r c)
  else if k = 1 then (if r = I then - A r c else A r c)
  else (if r = I then A r c + A J c * t else A r c)
theorem rwAt_mx {k : Int} {I J : Nat} {t : Int} {C : Nat} {xs : List Int} {r c : Nat} (hc : c < C) : rwAt k I J t C xs (r * C + c) = opX k I J t (fun r c => xs.getD (r * C + c) 0) r c := by
  unfold rwAt opX
  rw [idx_div hc, idx_mod hc]
theorem opX_mxL {k : Int} {I J : Nat} {t : Int} {n : Nat} {xs : List Int} (hk : k = 0 ∨ k = 1 ∨ k = 2) (hl : xs.length = n * n) (hx : nums xs = true) (hI : I < n) (ht : NumP t) (hn : nums (opL k I J t n xs) = true) :
    EqX n (mxL n (opL k I J t n xs)) (opX k I J t (mxL n xs)) := fun r c hr hc => by
  show (opL k I J t n xs).getD (r * n + c) 0 = _
  rw [opL_raw hk hl hx hI ht hn _ (idx_lt hr hc), rwAt_mx hc]
  rfl
def opSg (k : Int) : Int := if k = 2 then 1 else -1
theorem opX_det {k : Int} {I J : Nat} {t : Int} {n : Nat} (A : Mx) (hk : k = 0 ∨ k = 1 ∨ k = 2) (hI : I < n) (hJ : J < n) (hIJ : k ≠ 1 → I ≠ J) : det n (opX k I J t A) = opSg k * det n A := by
  rcases hk with rfl | rfl | rfl
  · have e : opX 0 I J t A = swR A I J := by
      funext r c
      unfold opX swR
      rw [if_pos rfl]
    rw [e, alt_swap (det_lin n) (det_alt n) (hIJ (by decide)) hI hJ A]
    unfold opSg
    rw [if_neg (by decide)]; omega
  · have e : opX 1 I J t A = stR A I (fun c => (-1) * A I c) := by
      funext r c
      unfold opX stR
      rw [if_neg (by decide), if_pos rfl]
      by_cases h : r = I
      · rw [if_pos h, if_pos h, h]
        show - A I c = (-1) * A I c
        omega
      · rw [if_neg h, if_neg h]
    rw [e, lin_scale (det_lin n) hI A (-1) (A I), stR_self]
    unfold opSg
    rw [if_neg (by decide)]
  · have e : opX 2 I J t A = stR A I (fun c => A I c + t * A J c) := by
      funext r c
      unfold opX stR
      rw [if_neg (by decide), if_neg (by decide)]
      by_cases h : r = I
      · rw [if_pos h, if_pos h, h, Int.mul_comm]
      · rw [if_neg h, if_neg h]
    rw [e, alt_add (det_lin n) (det_alt n) (hIJ (by decide)) hI hJ A t]
    unfold opSg
    rw [if_pos rfl, Int.one_mul]
/-- What an operation that succeeds has made of a square matrix. -/
theorem opM_det {k i j t : Int} {n : Nat} {xs : List Int} (h : (opM k i j t n n xs).ok = true) :
    ∃ ys : List Int, opM k i j t n n xs = ⟨true, n, n, ys⟩ ∧ xs.length = n * n ∧ nums xs = true ∧ ys.length = n * n ∧ nums ys = true ∧ det n (mxL n ys) = opSg k * det n (mxL n xs) := by
  unfold opM at h ⊢
  by_cases h1 : (isMat n n xs && isOp k i j t n) = true
  · rw [if_pos h1] at h ⊢
    simp only [Bool.and_eq_true] at h1
    obtain ⟨hm, ho⟩ := h1
    obtain ⟨-, -, hl, hx⟩ := isMat_says hm
    obtain ⟨hk, -, ⟨i1, i2⟩, ⟨j1, j2⟩, ht, -⟩ := isOp_says ho
    rw [← Int.natCast_mul] at hl
    have hl : xs.length = n * n := by omega
    obtain ⟨I, rfl⟩ := Int.eq_ofNat_of_zero_le i1
    obtain ⟨J, rfl⟩ := Int.eq_ofNat_of_zero_le j1
    have hIJ : k ≠ 1 → I ≠ J := fun h1 => by
      rcases hk with rfl | rfl | rfl
      · have := isOp_rows0 ho; omega
      · exact absurd rfl h1
      · have := isOp_rows2 ho; omega
    unfold MR.done at h ⊢
    by_cases h2 : isMat n n (opL k I J t n xs) = true
    · have hn := (isMat_says h2).2.2.2
      have e : (n : Int).toNat = n := rfl
      refine ⟨opL k I J t n xs, if_pos h2, hl, hx, by rw [opL_length, hl], hn, ?_⟩
      rw [det_congr (opX_mxL hk hl hx (by omega) ht hn)]
      exact opX_det _ hk (by omega) (by omega) hIJ
    · rw [show (if isMat n n (opL k (I : Int).toNat (J : Int).toNat t (n : Int).toNat xs) = true then _ else MR.no) = MR.no from if_neg h2] at h
      exact absurd h (by simp [MR.no])
  · rw [if_neg h1] at h; exact absurd h (by simp [MR.no])
theorem mxL_idL (n : Nat) : EqX n (mxL n (idL n n)) idX := fun r c hr hc => by
  have hp : r * n + c < n * n := idx_lt hr hc
  have e : (idL n n).getD (r * n + c) 0 = if (r * n + c) % (n + 1) = 0 ∧ r * n + c < n * (n + 1) then 1 else 0 := by
    unfold idL
    simp only [List.getD, List.getElem?_map, List.getElem?_range hp, Option.map_some, Option.getD_some]
  show (idL n n).getD (r * n + c) 0 = _
  rw [e]
  have hlt : r * n + c < n * (n + 1) := by rw [Nat.mul_add, Nat.mul_one]; omega
  unfold idX
  rcases Nat.lt_trichotomy r c with h | h | h
  · have e2 : r * n + c = r * (n + 1) + (c - r) := by rw [Nat.mul_add, Nat.mul_one]; omega
    rw [if_neg (fun h' => by rw [e2, idx_mod (by omega)] at h'; omega), if_neg (by omega)]
  · subst h
    have e2 : r * n + r = r * (n + 1) + 0 := by rw [Nat.mul_add, Nat.mul_one]; omega
    rw [if_pos ⟨by rw [e2, idx_mod (by omega)], hlt⟩, if_pos rfl]
  · obtain ⟨p, rfl⟩ : ∃ p, r = p + 1 := ⟨r - 1, by omega⟩
    have e2 : (p + 1) * n + c = p * (n + 1) + (n + c - p) := by rw [Nat.mul_add, Nat.mul_one, Nat.add_mul, Nat.one_mul]; omega
    rw [if_neg (fun h' => by rw [e2, idx_mod (by omega)] at h'; omega), if_neg (by omega)]
theorem idL_nums (n : Nat) : nums (idL n n) = true := by
  refine nums_true fun p hp => ?_
  rw [idL_length] at hp
  unfold idL
  simp only [List.getD, List.getElem?_map, List.getElem?_range hp, Option.map_some, Option.getD_some]
  split
  · exact ⟨by decide, by decide⟩
  · exact ⟨by decide, by decide⟩
theorem idL_det (n : Nat) : det n (mxL n (idL n n)) = 1 := by rw [det_congr (mxL_idL n), det_id]
end Go.Proofs.Ytpelnfenfeoeeaa
end

section
/-
  Plain mathematics of chapter 3: what a product and a matrix turned over are. Nothing of a program is used.
-/
namespace Go.Proofs.Ytpelnfenfeoeeaa
open Go.RowKit

def turnL (R C : Nat) (xs : List Int) : List Int := tab C R fun j i => xs.getD (i * C + j) 0
/-- What is turned over so far: rows below i, and of row i the columns below j. -/
def Turned (R C : Nat) (xs : List Int) (i j : Nat) (zs : List Int) : Prop :=
  zs.length = C * R ∧ (∀ i' j' : Nat, i' < i → j' < C → zs.getD (j' * R + i') 0 = xs.getD (i' * C + j') 0) ∧ (∀ j' : Nat, j' < j → zs.getD (j' * R + i) 0 = xs.getD (i * C + j') 0)
theorem Turned.start (R C : Nat) (xs : List Int) : Turned R C xs 0 0 (List.replicate (C * R) 0) := ⟨by simp, fun _ _ h => absurd h (by omega), fun _ h => absurd h (by omega)⟩
theorem Turned.step {R C : Nat} {xs zs : List Int} {i j : Nat} (h : Turned R C xs i j zs) (hi : i < R) (hj : j < C) : Turned R C xs i (j + 1) (zs.set (j * R + i) (xs.getD (i * C + j) 0)) := by
  obtain ⟨hl, h1, h2⟩ := h
  have hb : j * R + i < zs.length := by rw [hl]; exact idx_lt hj hi
  refine ⟨by rw [List.length_set]; exact hl, fun i' j' hi' hj' => ?_, fun j' hj' => ?_⟩
  · rw [getD_set _ _ _ _ hb, if_neg (fun e => by have := (idx_inj (by omega) hi e).2; omega)]
    exact h1 i' j' hi' hj'
  · rw [getD_set _ _ _ _ hb]
    by_cases e : j' = j
    · subst e; rw [if_pos rfl]
    · rw [if_neg (fun h => e (idx_inj hi hi h).1)]
      exact h2 j' (by omega)
theorem Turned.row {R C : Nat} {xs zs : List Int} {i : Nat} (h : Turned R C xs i C zs) : Turned R C xs (i + 1) 0 zs := by
  obtain ⟨hl, h1, h2⟩ := h
  refine ⟨hl, fun i' j' hi' hj' => ?_, fun _ h => absurd h (by omega)⟩
  by_cases e : i' = i
  · subst e; exact h2 j' hj'
  · exact h1 i' j' (by omega) hj'
theorem Turned.whole {R C : Nat} {xs zs : List Int} (h : Turned R C xs R 0 zs) : zs = turnL R C xs := by
  obtain ⟨hl, h1, _⟩ := h
  exact tab_ext hl fun j i hj hi => h1 i j hi hj
/-- The sum of the first k products of row i and column j. -/
def dot (K C : Nat) (xs ys : List Int) (i j : Nat) : Nat → Int
  | 0 => 0
  | k + 1 => dot K C xs ys i j k + xs.getD (i * K + k) 0 * ys.getD (k * C + j) 0
def mulL (R K C : Nat) (xs ys : List Int) : List Int := tab R C fun i j => dot K C xs ys i j K
theorem dot_bd {K C : Nat} {xs ys : List Int} {i j : Nat} (hx : ∀ p : Nat, p < K → NumP (xs.getD (i * K + p) 0)) (hy : ∀ p : Nat, p < K → NumP (ys.getD (p * C + j) 0)) :
    ∀ k : Nat, k ≤ K → -160000000000000000 * (k : Int) ≤ dot K C xs ys i j k ∧ dot K C xs ys i j k ≤ 160000000000000000 * (k : Int) := by
  intro k
  induction k with
  | zero => intro _; simp [dot]
  | succ k ih =>
    intro hk
    have h := ih (by omega)
    have m := mul_num _ _ (hx k (by omega)) (hy k (by omega))
    simp only [dot]
    push_cast
    omega

/-- What is filled in so far, row by row. -/
def Filled (R C : Nat) (f : Nat → Nat → Int) (i j : Nat) (zs : List Int) : Prop :=
  zs.length = R * C ∧ (∀ i' j' : Nat, i' < i → j' < C → zs.getD (i' * C + j') 0 = f i' j') ∧ (∀ j' : Nat, j' < j → zs.getD (i * C + j') 0 = f i j')
theorem Filled.start (R C : Nat) (f : Nat → Nat → Int) : Filled R C f 0 0 (List.replicate (R * C) 0) := ⟨by simp, fun _ _ h => absurd h (by omega), fun _ h => absurd h (by omega)⟩
theorem Filled.step {R C : Nat} {f : Nat → Nat → Int} {zs : List Int} {i j : Nat} (h : Filled R C f i j zs) (hi : i < R) (hj : j < C) : Filled R C f i (j + 1) (zs.set (i * C + j) (f i j)) := by
  obtain ⟨hl, h1, h2⟩ := h
  have hb : i * C + j < zs.length := by rw [hl]; exact idx_lt hi hj
  refine ⟨by rw [List.length_set]; exact hl, fun i' j' hi' hj' => ?_, fun j' hj' => ?_⟩
  · rw [getD_set _ _ _ _ hb, if_neg (fun e => by have := (idx_inj hj' hj e).1; omega)]
    exact h1 i' j' hi' hj'
  · rw [getD_set _ _ _ _ hb]
    by_cases e : j' = j
    · subst e; rw [if_pos rfl]
    · rw [if_neg (fun h => e (idx_inj (by omega) hj h).2)]
      exact h2 j' (by omega)
theorem Filled.row {R C : Nat} {f : Nat → Nat → Int} {zs : List Int} {i : Nat} (h : Filled R C f i C zs) : Filled R C f (i + 1) 0 zs := by
  obtain ⟨hl, h1, h2⟩ := h
  refine ⟨hl, fun i' j' hi' hj' => ?_, fun _ h => absurd h (by omega)⟩
  by_cases e : i' = i
  · subst e; exact h2 j' hj'
  · exact h1 i' j' (by omega) hj'
theorem Filled.whole {R C : Nat} {f : Nat → Nat → Int} {zs : List Int} (h : Filled R C f R 0 zs) : zs = tab R C f := tab_ext h.1 fun i j hi hj => h.2.1 i j hi hj
def mulM (r c : Int) (xs : List Int) (r' c' : Int) (ys : List Int) : MR := if (isMat r c xs && isMat r' c' ys && decide (c = r')) = true then MR.done r c' (mulL r.toNat c.toNat c'.toNat xs ys) else MR.no
def turnM (r c : Int) (xs : List Int) : MR := if isMat r c xs = true then ⟨true, c, r, turnL r.toNat c.toNat xs⟩ else MR.no
def addL (xs ys : List Int) : List Int := (List.range xs.length).map fun i => xs.getD i 0 + ys.getD i 0
def addM (r c : Int) (xs : List Int) (r' c' : Int) (ys : List Int) : MR := if (isMat r c xs && isMat r' c' ys && decide (r = r' ∧ c = c')) = true then MR.done r c (addL xs ys) else MR.no

def scaleL (xs : List Int) (q : Int) : List Int := (List.range xs.length).map fun i => xs.getD i 0 * q
def scaleM (r c : Int) (xs : List Int) (q : Int) : MR := if (isMat r c xs && decide (NumP q)) = true then MR.done r c (scaleL xs q) else MR.no

end Go.Proofs.Ytpelnfenfeoeeaa
end

section
/-
  What SameMatrix answers.
-/
namespace Go.Proofs.Ytpelnfenfeoeeaa


/-- SameMatrix. -/
def sameM (r c : Int) (xs : List Int) (r' c' : Int) (ys : List Int) : Bool := decide (r = r' ∧ c = c' ∧ xs = ys)
end Go.Proofs.Ytpelnfenfeoeeaa
end

section
/-
  Plain mathematics of chapter 3: products and matrices turned over. Nothing of a program is used.
-/
namespace Go.Proofs.Ytpelnfenfeoeeaa

theorem turnL_length (R C : Nat) (xs : List Int) : (turnL R C xs).length = C * R := tab_length _ _ _
theorem turnL_at (R C : Nat) (xs : List Int) {i j : Nat} (hi : i < R) (hj : j < C) : (turnL R C xs).getD (j * R + i) 0 = xs.getD (i * C + j) 0 := by
  unfold turnL
  rw [tab_at C R _ hj hi]
theorem mulL_length (R K C : Nat) (xs ys : List Int) : (mulL R K C xs ys).length = R * C := tab_length _ _ _
theorem mulL_at (R K C : Nat) (xs ys : List Int) {i j : Nat} (hi : i < R) (hj : j < C) : (mulL R K C xs ys).getD (i * C + j) 0 = dot K C xs ys i j K := by
  unfold mulL
  rw [tab_at R C _ hi hj]
theorem turn_turn (R C : Nat) (xs : List Int) (h : xs.length = R * C) : turnL C R (turnL R C xs) = xs := by
  unfold turnL
  rw [eq_comm]
  refine tab_ext h fun i j hi hj => ?_
  exact (turnL_at R C xs hi hj).symm
theorem dot_turn (R K C : Nat) (xs ys : List Int) {i j : Nat} (hi : i < C) (hj : j < R) : ∀ k : Nat, k ≤ K → dot K R (turnL K C ys) (turnL R K xs) i j k = dot K C xs ys j i k := by
  intro k
  induction k with
  | zero => intro _; rfl
  | succ k ih =>
    intro hk
    show dot K R (turnL K C ys) (turnL R K xs) i j k + (turnL K C ys).getD (i * K + k) 0 * (turnL R K xs).getD (k * R + j) 0 = dot K C xs ys j i k + xs.getD (j * K + k) 0 * ys.getD (k * C + i) 0
    rw [ih (by omega), turnL_at K C ys (by omega) hi, turnL_at R K xs hj (by omega), Int.mul_comm]
theorem mul_turn (R K C : Nat) (xs ys : List Int) : mulL C K R (turnL K C ys) (turnL R K xs) = turnL R C (mulL R K C xs ys) := by
  unfold turnL
  refine tab_ext (mulL_length _ _ _ _ _) fun i j hi hj => ?_
  have h1 := mulL_at C K R (turnL K C ys) (turnL R K xs) hi hj
  rw [mulL_at R K C xs ys hj hi]
  unfold turnL at h1
  rw [h1]
  exact dot_turn R K C xs ys hi hj K (Nat.le_refl _)
theorem nums_of {zs : List Int} (h : ∀ q : Nat, q < zs.length → NumP (zs.getD q 0)) : nums zs = true := nums_true h
theorem isMat_turn {R C : Nat} {xs : List Int} (h : isMat R C xs = true) : isMat C R (turnL R C xs) = true := by
  obtain ⟨h1, h2, h3, h4⟩ := isMat_says h
  have hl : xs.length = R * C := by rw [← Int.natCast_mul] at h3; omega
  have hn : nums (turnL R C xs) = true := nums_of fun q hq => by
    rw [turnL_length] at hq
    have hR : 0 < R := by
      rcases Nat.eq_zero_or_pos R with e | e
      · rw [e, Nat.mul_zero] at hq; omega
      · exact e
    have hj : q / R < C := Nat.div_lt_of_lt_mul (by rw [Nat.mul_comm]; exact hq)
    have hi : q % R < R := Nat.mod_lt q hR
    have e : q / R * R + q % R = q := by rw [Nat.mul_comm]; exact Nat.div_add_mod q R
    rw [← e, turnL_at R C xs hi hj]
    exact nums_at h4 (by rw [hl]; exact idx_lt hi hj)
  unfold isMat
  rw [decide_eq_true (show SizeP (C : Int) from h2), decide_eq_true (show SizeP (R : Int) from h1), hn, decide_eq_true (show (((turnL R C xs).length : Nat) : Int) = (C : Int) * (R : Int) by rw [turnL_length, Int.natCast_mul])]
  rfl
/-- A product is none, or all is known of it. -/
theorem mul_cases (r c : Int) (xs : List Int) (r' c' : Int) (ys : List Int) : mulM r c xs r' c' ys = MR.no ∨
    ∃ R K C : Nat, r = R ∧ c = K ∧ r' = K ∧ c' = C ∧ isMat R K xs = true ∧ isMat K C ys = true ∧ isMat R C (mulL R K C xs ys) = true ∧ mulM r c xs r' c' ys = ⟨true, R, C, mulL R K C xs ys⟩ := by
  unfold mulM
  by_cases h : (isMat r c xs && isMat r' c' ys && decide (c = r')) = true
  · rw [if_pos h]
    simp only [Bool.and_eq_true, decide_eq_true_eq] at h
    obtain ⟨⟨h1, h2⟩, rfl⟩ := h
    obtain ⟨⟨a1, -⟩, ⟨a2, -⟩, -, -⟩ := isMat_says h1
    obtain ⟨-, ⟨a3, -⟩, -, -⟩ := isMat_says h2
    obtain ⟨R, rfl⟩ := Int.eq_ofNat_of_zero_le a1
    obtain ⟨K, rfl⟩ := Int.eq_ofNat_of_zero_le a2
    obtain ⟨C, rfl⟩ := Int.eq_ofNat_of_zero_le a3
    simp only [Int.toNat_natCast]
    unfold MR.done
    by_cases h3 : isMat R C (mulL R K C xs ys) = true
    · rw [if_pos h3]
      exact .inr ⟨R, K, C, rfl, rfl, rfl, rfl, h1, h2, h3, rfl⟩
    · rw [if_neg h3]
      exact .inl rfl
  · rw [if_neg h]
    exact .inl rfl
theorem turnM_ok {R C : Nat} {xs : List Int} (h : isMat R C xs = true) : turnM R C xs = ⟨true, C, R, turnL R C xs⟩ := by
  unfold turnM
  rw [if_pos h]
  simp only [Int.toNat_natCast]
theorem mulM_ok {R K C : Nat} {xs ys : List Int} (h : isMat R K xs = true) (h' : isMat K C ys = true) (h3 : isMat R C (mulL R K C xs ys) = true) : mulM R K xs K C ys = ⟨true, R, C, mulL R K C xs ys⟩ := by
  unfold mulM MR.done
  rw [h, h', decide_eq_true rfl]
  simp only [Int.toNat_natCast, Bool.and_true, if_true]
  rw [if_pos h3]
theorem sameM_self (r c : Int) (zs : List Int) : sameM r c zs r c zs = true := decide_eq_true ⟨rfl, rfl, rfl⟩
end Go.Proofs.Ytpelnfenfeoeeaa
end

section
/-
  Plain mathematics of chapter 3: products can be grouped in any way, and distribute over sums. Nothing of a program is used.
-/
namespace Go.Proofs.Ytpelnfenfeoeeaa

theorem dot_sum (K C : Nat) (xs ys : List Int) (i j : Nat) : ∀ n : Nat, dot K C xs ys i j n = sumN n (fun k => xs.getD (i * K + k) 0 * ys.getD (k * C + j) 0) := by
  intro n
  induction n with
  | zero => rfl
  | succ n ih => show dot K C xs ys i j n + _ = _; rw [ih]; rfl
theorem mul_assoc (R K C D : Nat) (xs ys zs : List Int) : mulL R C D (mulL R K C xs ys) zs = mulL R K D xs (mulL K C D ys zs) := by
  refine tab_ext (mulL_length _ _ _ _ _) fun i j hi hj => ?_
  rw [mulL_at R C D _ _ hi hj, dot_sum, dot_sum]
  have h1 : sumN C (fun k => (mulL R K C xs ys).getD (i * C + k) 0 * zs.getD (k * D + j) 0) = sumN C (fun k => sumN K (fun l => xs.getD (i * K + l) 0 * ys.getD (l * C + k) 0 * zs.getD (k * D + j) 0)) := by
    refine sumN_congr fun k hk => ?_
    rw [mulL_at R K C xs ys hi hk, dot_sum, sumN_mul]
  have h2 : sumN K (fun l => xs.getD (i * K + l) 0 * (mulL K C D ys zs).getD (l * D + j) 0) = sumN K (fun l => sumN C (fun k => xs.getD (i * K + l) 0 * ys.getD (l * C + k) 0 * zs.getD (k * D + j) 0)) := by
    refine sumN_congr fun l hl => ?_
    rw [mulL_at K C D ys zs hl hj, dot_sum, sumN_mul_left]
    exact sumN_congr fun k _ => (Int.mul_assoc _ _ _).symm
  rw [h1, h2, sumN_swap]
theorem addL_at (xs ys : List Int) (i : Nat) (h : i < xs.length) : (addL xs ys).getD i 0 = xs.getD i 0 + ys.getD i 0 := by
  simp [addL, List.getD, h]
theorem addL_length (xs ys : List Int) : (addL xs ys).length = xs.length := by simp [addL]
theorem scale_two (xs : List Int) : scaleL xs 2 = addL xs xs := by
  unfold scaleL addL
  refine List.map_congr_left fun i _ => ?_
  omega
theorem mul_double (R K C : Nat) (xs ys : List Int) (hy : ys.length = K * C) : mulL R K C xs (addL ys ys) = addL (mulL R K C xs ys) (mulL R K C xs ys) := by
  refine list_eq (n := R * C) (mulL_length _ _ _ _ _) (by rw [addL_length, mulL_length]) fun p hp => ?_
  have hC : 0 < C := by
    rcases Nat.eq_zero_or_pos C with e | e
    · rw [e, Nat.mul_zero] at hp; omega
    · exact e
  have hi : p / C < R := Nat.div_lt_of_lt_mul (by rw [Nat.mul_comm]; exact hp)
  have hj : p % C < C := Nat.mod_lt p hC
  have e : p / C * C + p % C = p := by rw [Nat.mul_comm]; exact Nat.div_add_mod p C
  rw [addL_at _ _ _ (by rw [mulL_length]; exact hp)]
  rw [← e, mulL_at R K C xs _ hi hj, mulL_at R K C xs ys hi hj, dot_sum, dot_sum, ← sumN_add]
  refine sumN_congr fun k hk => ?_
  rw [addL_at _ _ _ (by rw [hy]; exact idx_lt hk hj), Int.mul_add]
/-- Products can be grouped in any way. -/
theorem ring_assoc {R K C : Nat} {xs ys zs : List Int} {r c : Int} {y z w : MR}
    (hy : mulM R C (mulL R K C xs ys) r c zs = y) (hz : mulM K C ys r c zs = z) (hw : mulM R K xs z.r z.c z.zs = w) (oy : y.ok = true) (oz : z.ok = true) (ow : w.ok = true) : y = w := by
  rcases mul_cases R C (mulL R K C xs ys) r c zs with h | ⟨R', C', D, e1, e2, e3, e4, -, m2, -, h⟩
  · rw [h] at hy; rw [← hy] at oy; cases oy
  obtain rfl : R = R' := by omega
  obtain rfl : C = C' := by omega
  subst e3 e4
  rw [h] at hy
  rcases mul_cases K C ys C D zs with h' | ⟨K', C'', D', e1, e2, e3, e4, -, -, m3, h'⟩
  · rw [h'] at hz; rw [← hz] at oz; cases oz
  obtain rfl : K = K' := by omega
  obtain rfl : C = C'' := by omega
  obtain rfl : D = D' := by omega
  rw [h'] at hz
  rw [← hz] at hw
  dsimp only at hw
  rcases mul_cases R K xs K D (mulL K C D ys zs) with h'' | ⟨R'', K'', D'', e1, e2, e3, e4, -, -, -, h''⟩
  · rw [h''] at hw; rw [← hw] at ow; cases ow
  rw [← hy, ← hw, h'', mul_assoc]
  obtain rfl : R = R'' := by omega
  obtain rfl : K = K'' := by omega
  obtain rfl : D = D'' := by omega
  rfl
theorem add_cases {R C : Nat} {xs : List Int} (h : isMat R C xs = true) : addM R C xs R C xs = MR.no ∨ (addM R C xs R C xs = ⟨true, R, C, addL xs xs⟩ ∧ isMat R C (addL xs xs) = true) := by
  unfold addM MR.done
  rw [h, decide_eq_true (show (R : Int) = R ∧ (C : Int) = C from ⟨rfl, rfl⟩)]
  simp only [Bool.and_self, if_true]
  by_cases h2 : isMat R C (addL xs xs) = true
  · rw [if_pos h2]; exact .inr ⟨rfl, h2⟩
  · rw [if_neg h2]; exact .inl rfl
/-- Products distribute over sums. -/
theorem ring_dist {R K C : Nat} {xs ys : List Int} (h2 : isMat K C ys = true) (h3 : isMat R C (mulL R K C xs ys) = true) {s t u v : MR}
    (hs : addM K C ys K C ys = s) (ht : mulM R K xs s.r s.c s.zs = t) (hu : addM R C (mulL R K C xs ys) R C (mulL R K C xs ys) = u) (hv : scaleM R C (mulL R K C xs ys) 2 = v)
    (os : s.ok = true) (ot : t.ok = true) (ou : u.ok = true) : t = u ∧ u = v := by
  have ly : ys.length = K * C := by
    obtain ⟨-, -, l, -⟩ := isMat_says h2
    rw [← Int.natCast_mul] at l; omega
  rcases add_cases h2 with h | ⟨h, m⟩
  · rw [h] at hs; rw [← hs] at os; cases os
  rw [h] at hs
  rcases add_cases h3 with h' | ⟨h', m'⟩
  · rw [h'] at hu; rw [← hu] at ou; cases ou
  rw [h'] at hu
  have hv2 : v = ⟨true, R, C, addL (mulL R K C xs ys) (mulL R K C xs ys)⟩ := by
    rw [← hv]
    unfold scaleM MR.done
    rw [h3, scale_two, decide_eq_true (show NumP 2 by unfold NumP; omega)]
    simp only [Bool.and_self, if_true]
    rw [if_pos m']
  rw [← hs] at ht
  dsimp only at ht
  rcases mul_cases R K xs K C (addL ys ys) with h'' | ⟨R'', K'', C'', e1, e2, e3, e4, -, -, -, h''⟩
  · rw [h''] at ht; rw [← ht] at ot; cases ot
  rw [h''] at ht
  obtain rfl : R = R'' := by omega
  obtain rfl : K = K'' := by omega
  obtain rfl : C = C'' := by omega
  refine ⟨?_, ?_⟩
  · rw [← ht, ← hu, mul_double R K C xs ys ly]
  · rw [← hu, hv2]
end Go.Proofs.Ytpelnfenfeoeeaa
end

section
/-
  Plain mathematics of chapter 12: unimodular multiples span one lattice; the state of the work towards a Hermite form. Nothing of a program is used.
-/
namespace Go.Proofs.Ytpelnfenfeoeeaa

theorem SubL.mul (n c : Nat) (U M : Mx) : SubL n n c (mulX n U M) M := fun i _ => ⟨U i, fun _ _ => rfl⟩
/-- What has determinant 1 or -1 can be undone. -/
theorem SubL.unmul {n c : Nat} {U M : Mx} (h : det n U = 1 ∨ det n U = -1) : SubL n n c M (mulX n U M) := by
  rcases n with _ | m
  · intro i hi; omega
  intro i hi
  refine ⟨fun a => det (m + 1) U * adjX m U i a, fun j _ => ?_⟩
  have hd : det (m + 1) U * det (m + 1) U = 1 := by rcases h with h | h <;> rw [h] <;> rfl
  have e1 : (sumN (m + 1) fun a => det (m + 1) U * adjX m U i a * mulX (m + 1) U M a j) = sumN (m + 1) fun a => sumN (m + 1) fun b => det (m + 1) U * (adjX m U i a * U a b) * M b j := by
    refine sumN_congr fun a _ => ?_
    show det (m + 1) U * adjX m U i a * (sumN (m + 1) fun b => U a b * M b j) = _
    rw [sumN_mul_left]
    exact sumN_congr fun b _ => by grind
  rw [e1, sumN_swap]
  have e2 : (sumN (m + 1) fun b => sumN (m + 1) fun a => det (m + 1) U * (adjX m U i a * U a b) * M b j) = sumN (m + 1) fun b => det (m + 1) U * (if i = b then det (m + 1) U else 0) * M b j := by
    refine sumN_congr fun b hb => ?_
    rw [← sumN_mul, ← sumN_mul_left]
    have := adj_mul m U i b hi hb
    unfold mulX at this
    rw [this]
  rw [e2, sumN_one (a := i) hi (fun b _ hne => by rw [if_neg (Ne.symm hne), Int.mul_zero, Int.zero_mul]), if_pos rfl, hd, Int.one_mul]
/-- An operation on the rows of a product is one on those of its first factor. -/
theorem opX_mul {k : Int} {I J : Nat} {t : Int} {n : Nat} {U M A : Mx} {c : Nat} (hI : I < n) (hJ : J < n) (h : ∀ i j, i < n → j < c → mulX n U M i j = A i j) : ∀ i j, i < n → j < c → mulX n (opX k I J t U) M i j = opX k I J t A i j := fun i j hi hj => by
  unfold opX
  by_cases k0 : k = 0
  · rw [if_pos k0]
    show (sumN n fun a => (if k = 0 then (if i = I then U J a else if i = J then U I a else U i a) else if k = 1 then (if i = I then - U i a else U i a) else (if i = I then U i a + U J a * t else U i a)) * M a j) = _
    simp only [if_pos k0]
    by_cases e1 : i = I
    · simp only [if_pos e1]; exact h J j hJ hj
    · simp only [if_neg e1]
      by_cases e2 : i = J
      · simp only [if_pos e2]; exact h I j hI hj
      · simp only [if_neg e2]; exact h i j hi hj
  · rw [if_neg k0]
    show (sumN n fun a => (if k = 0 then (if i = I then U J a else if i = J then U I a else U i a) else if k = 1 then (if i = I then - U i a else U i a) else (if i = I then U i a + U J a * t else U i a)) * M a j) = _
    simp only [if_neg k0]
    by_cases k1 : k = 1
    · simp only [if_pos k1]
      by_cases e1 : i = I
      · simp only [if_pos e1]
        rw [← h i j hi hj]
        show _ = - sumN n fun a => U i a * M a j
        rw [show (- sumN n fun a => U i a * M a j) = (-1) * sumN n fun a => U i a * M a j by omega, sumN_mul_left]
        exact sumN_congr fun a _ => by grind
      · simp only [if_neg e1]; exact h i j hi hj
    · simp only [if_neg k1]
      by_cases e1 : i = I
      · simp only [if_pos e1]
        rw [← h i j hi hj, ← h J j hJ hj]
        show _ = (sumN n fun a => U i a * M a j) + (sumN n fun a => U J a * M a j) * t
        rw [sumN_mul, ← sumN_add]
        exact sumN_congr fun a _ => by grind
      · simp only [if_neg e1]; exact h i j hi hj
/-- The account: what is left is U times M, and U has determinant 1 or -1. -/
structure Acc (n c : Nat) (U M A : Mx) : Prop where
  mul : ∀ i j, i < n → j < c → mulX n U M i j = A i j
  uni : det n U = 1 ∨ det n U = -1
theorem Acc.start (n c : Nat) (M : Mx) : Acc n c idX M M := ⟨fun i j hi _ => by
  show (sumN n fun k => idX i k * M k j) = M i j
  rw [sumN_one (a := i) hi (fun k _ hne => by unfold idX; rw [if_neg (Ne.symm hne), Int.zero_mul])]
  unfold idX
  rw [if_pos rfl, Int.one_mul], .inl (det_id n)⟩
theorem Acc.op {n c : Nat} {U M A : Mx} (h : Acc n c U M A) {k : Int} {I J : Nat} {t : Int} (hk : k = 0 ∨ k = 1 ∨ k = 2) (hI : I < n) (hJ : J < n) (hIJ : k ≠ 1 → I ≠ J) : Acc n c (opX k I J t U) M (opX k I J t A) := by
  refine ⟨opX_mul hI hJ h.mul, ?_⟩
  rw [opX_det U hk hI hJ hIJ]
  have := h.uni
  unfold opSg
  split <;> omega
theorem Acc.congr {n c : Nat} {U V M A B : Mx} (h : Acc n c U M A) (hu : EqX n U V) (ha : ∀ i j, i < n → j < c → A i j = B i j) : Acc n c V M B := by
  refine ⟨fun i j hi hj => ?_, by rw [← det_congr hu]; exact h.uni⟩
  rw [← ha i j hi hj, ← h.mul i j hi hj]
  exact sumN_congr fun k hk => by rw [hu i k hi hk]
theorem Acc.sub {n c : Nat} {U M A : Mx} (h : Acc n c U M A) : SubL n n c A M ∧ SubL n n c M A := by
  have e1 : SubL n n c A (mulX n U M) := SubL.congr fun i j hi hj => (h.mul i j hi hj).symm
  have e2 : SubL n n c (mulX n U M) A := SubL.congr fun i j hi hj => h.mul i j hi hj
  exact ⟨e1.trans (SubL.mul n c U M), (SubL.unmul h.uni).trans e2⟩
/-- Two Hermite forms of one matrix, and of a unimodular multiple of it, are one. -/
theorem Acc.uniq {n c : Nat} {U U' M M' A A' : Mx} {q q' : Nat → Nat} {t t' : Nat} (h : Acc n c U M A) (h' : Acc n c U' M' A') (hA : HerP n c A q t) (hA' : HerP n c A' q' t') (h1 : SubL n n c M M') (h2 : SubL n n c M' M) : t = t' ∧ ∀ i j, i < n → j < c → A i j = A' i j :=
  hA.uniq hA' ((h'.sub.1.trans h2).trans h.sub.2) ((h.sub.1.trans h1).trans h'.sub.2)

/-- The work so far: t pivots in the columns ahead of column j. -/
structure HInv (r c : Nat) (A : Mx) (q : Nat → Nat) (t j : Nat) : Prop where
  le : t ≤ r
  jc : j ≤ c
  col : ∀ k, k < t → q k < j
  inc : ∀ k l, k < l → l < t → q k < q l
  pos : ∀ k, k < t → 0 < A k (q k)
  left : ∀ k b, k < t → b < q k → A k b = 0
  above : ∀ k i, k < t → i < k → 0 ≤ A i (q k) ∧ A i (q k) < A k (q k)
  low : ∀ i b, t ≤ i → i < r → b < j → A i b = 0
section
variable {r c t j : Nat} {A B : Mx} {q : Nat → Nat}
theorem HInv.start (r c : Nat) (A : Mx) (q : Nat → Nat) : HInv r c A q 0 0 := ⟨Nat.zero_le _, Nat.zero_le _, fun k hk => by omega, fun k l _ hl => by omega, fun k hk => by omega, fun k b hk => by omega, fun k i hk => by omega, fun i b _ _ hb => by omega⟩
/-- It speaks of the columns ahead alone. -/
theorem HInv.congr (h : HInv r c A q t j) (e : ∀ i b, i < r → b < j → B i b = A i b) : HInv r c B q t j := by
  have hle := h.le
  refine ⟨h.le, h.jc, h.col, h.inc, fun k hk => ?_, fun k b hk hb => ?_, fun k i hk hi => ?_, fun i b h1 h2 h3 => ?_⟩
  · rw [e k _ (by omega) (h.col k hk)]; exact h.pos k hk
  · have := h.col k hk
    rw [e k b (by omega) (by omega)]; exact h.left k b hk hb
  · rw [e i _ (by omega) (h.col k hk), e k _ (by omega) (h.col k hk)]; exact h.above k i hk hi
  · rw [e i b h2 h3]; exact h.low i b h1 h2 h3
theorem HInv.skip (h : HInv r c A q t j) (hj : j < c) (hz : ∀ i, t ≤ i → i < r → A i j = 0) : HInv r c A q t (j + 1) := by
  refine ⟨h.le, hj, fun k hk => by have := h.col k hk; omega, h.inc, h.pos, h.left, h.above, fun i b h1 h2 h3 => ?_⟩
  rcases Nat.lt_or_ge b j with h4 | h4
  · exact h.low i b h1 h2 h4
  · obtain rfl : b = j := by omega
    exact hz i h1 h2
def putQ (q : Nat → Nat) (t j : Nat) : Nat → Nat := fun k => if k = t then j else q k
theorem HInv.put (h : HInv r c A q t j) (hj : j < c) (ht : t < r) (hp : 0 < A t j) (hz : ∀ i, t < i → i < r → A i j = 0) (ha : ∀ i, i < t → 0 ≤ A i j ∧ A i j < A t j) : HInv r c A (putQ q t j) (t + 1) (j + 1) := by
  have q1 : ∀ k, k < t → putQ q t j k = q k := fun k hk => if_neg (by omega)
  have q2 : putQ q t j t = j := if_pos rfl
  have sp : ∀ k, k < t + 1 → k < t ∨ k = t := fun k hk => by omega
  refine ⟨ht, hj, fun k hk => ?_, fun k l hkl hl => ?_, fun k hk => ?_, fun k b hk hb => ?_, fun k i hk hi => ?_, fun i b h1 h2 h3 => ?_⟩
  · rcases sp k hk with h1 | rfl
    · rw [q1 k h1]; have := h.col k h1; omega
    · rw [q2]; omega
  · rcases sp l hl with h1 | rfl
    · rw [q1 l h1, q1 k (by omega)]; exact h.inc k l hkl h1
    · rw [q2, q1 k hkl]; exact h.col k hkl
  · rcases sp k hk with h1 | rfl
    · rw [q1 k h1]; exact h.pos k h1
    · rw [q2]; exact hp
  · rcases sp k hk with h1 | rfl
    · rw [q1 k h1] at hb; exact h.left k b h1 hb
    · rw [q2] at hb; exact h.low k b (Nat.le_refl _) ht hb
  · rcases sp k hk with h1 | rfl
    · rw [q1 k h1]; exact h.above k i h1 hi
    · rw [q2]; exact ha i hi
  · rcases Nat.lt_or_ge b j with h4 | h4
    · exact h.low i b (by omega) h2 h4
    · obtain rfl : b = j := by omega
      exact hz i (by omega) h2
theorem HInv.done (h : HInv r c A q t j) (he : t = r ∨ j = c) : HerP r c A q t :=
  ⟨h.le, fun k hk => by have := h.col k hk; have := h.jc; omega, h.inc, h.pos, h.left, fun i b h1 h2 h3 => by
    rcases he with e | e
    · omega
    · exact h.low i b h1 h2 (by omega), h.above⟩
/-- Adding multiples of a row from t on to another row keeps the columns ahead. -/
theorem HInv.opAdd (h : HInv r c A q t j) {I J : Nat} {z : Int} (hJ : t ≤ J) (hJr : J < r) : HInv r c (opX 2 I J z A) q t j := h.congr fun i b hi hb => by
  unfold opX
  rw [if_neg (by decide), if_neg (by decide)]
  split
  · rw [h.low J b hJ hJr hb, Int.zero_mul, Int.add_zero]
  · rfl
theorem HInv.opSwap (h : HInv r c A q t j) {I J : Nat} {z : Int} (hI : t ≤ I) (hIr : I < r) (hJ : t ≤ J) (hJr : J < r) : HInv r c (opX 0 I J z A) q t j := h.congr fun i b hi hb => by
  unfold opX
  rw [if_pos rfl]
  split
  · rename_i e; rw [h.low J b hJ hJr hb, e, h.low I b hI hIr hb]
  · split
    · rename_i e; rw [h.low I b hI hIr hb, e, h.low J b hJ hJr hb]
    · rfl
theorem HInv.opNeg (h : HInv r c A q t j) {I J : Nat} {z : Int} (hI : t ≤ I) (hIr : I < r) : HInv r c (opX 1 I J z A) q t j := h.congr fun i b hi hb => by
  unfold opX
  rw [if_neg (by decide), if_pos rfl]
  split
  · rename_i e; rw [e, h.low I b hI hIr hb]; rfl
  · rfl
end
/-- What a quotient rounded down leaves. -/
theorem floor_left {x y q m : Int} (he : x = q * y + m) (hm : (0 ≤ m ∧ m < y) ∨ (y < m ∧ m ≤ 0)) : x + y * (-q) = m ∧ m.natAbs < y.natAbs := by
  refine ⟨?_, by omega⟩
  rw [he, Int.mul_neg, Int.mul_comm y q]; omega
end Go.Proofs.Ytpelnfenfeoeeaa
end

section
/-
  Plain mathematics of chapter 7: primitive rows. Nothing of a program is used.
-/
namespace Go.Proofs.Ytpelnfenfeoeeaa

/-- The greatest common divisor of the first n. -/
def gcdN : Nat → (Nat → Int) → Int
  | 0, _ => 0
  | n + 1, f => ((gcdN n f).gcd (f n) : Int)
/-- The sign of the first one that is not 0. -/
def sgnN : Nat → (Nat → Int) → Int
  | 0, _ => 0
  | n + 1, f => if sgnN n f = 0 ∧ f n ≠ 0 then (if f n < 0 then -1 else 1) else sgnN n f
theorem gcdN_nonneg (n : Nat) (f : Nat → Int) : 0 ≤ gcdN n f := by
  cases n with
  | zero => exact Int.le_refl _
  | succ n => exact Int.natCast_nonneg _
theorem gcdN_dvd {n : Nat} {f : Nat → Int} : ∀ j, j < n → gcdN n f ∣ f j := by
  induction n with
  | zero => intro j hj; omega
  | succ n ih =>
    intro j hj
    rcases Nat.lt_or_ge j n with h | h
    · exact Int.dvd_trans (Int.gcd_dvd_left ..) (ih j h)
    · obtain rfl : j = n := by omega
      exact Int.gcd_dvd_right ..
theorem gcdN_max {n : Nat} {f : Nat → Int} {g : Int} : (∀ j, j < n → g ∣ f j) → g ∣ gcdN n f := by
  induction n with
  | zero => intro _; exact Int.dvd_zero g
  | succ n ih => intro h; exact Int.dvd_coe_gcd (ih fun j hj => h j (by omega)) (h n (by omega))
theorem gcdN_none {n : Nat} {f : Nat → Int} (h : gcdN n f = 0) : ∀ j, j < n → f j = 0 := fun j hj => by
  have := gcdN_dvd (f := f) j hj
  rw [h] at this
  exact Int.zero_dvd.mp this
theorem gcdN_all {n : Nat} {f : Nat → Int} (h : ∀ j, j < n → f j = 0) : gcdN n f = 0 := by
  induction n with
  | zero => rfl
  | succ n ih =>
    show ((gcdN n f).gcd (f n) : Int) = 0
    rw [ih fun j hj => h j (by omega), h n (by omega)]
    rfl
theorem gcdN_congr {n : Nat} {f g : Nat → Int} (h : ∀ j, j < n → f j = g j) : gcdN n f = gcdN n g := by
  induction n with
  | zero => rfl
  | succ n ih =>
    show ((gcdN n f).gcd (f n) : Int) = ((gcdN n g).gcd (g n) : Int)
    rw [ih fun j hj => h j (by omega), h n (by omega)]
theorem gcdN_num {n : Nat} {f : Nat → Int} (h : ∀ j, j < n → NumP (f j)) : NumP (gcdN n f) := by
  have h0 := gcdN_nonneg n f
  by_cases hz : gcdN n f = 0
  · rw [hz]; exact ⟨by decide, by decide⟩
  · have : ∃ j, j < n ∧ f j ≠ 0 := Classical.byContradiction fun hn => hz (gcdN_all fun j hj => Classical.byContradiction fun h1 => hn ⟨j, hj, h1⟩)
    obtain ⟨j, hj, hfj⟩ := this
    have hd := gcdN_dvd (f := f) j hj
    have hb := h j hj
    unfold NumP at hb ⊢
    have hle : gcdN n f ≤ (f j).natAbs := by
      refine Int.le_of_dvd (by omega) ?_
      exact Int.dvd_natAbs.mpr hd
    omega
theorem sgnN_congr {n : Nat} {f g : Nat → Int} (h : ∀ j, j < n → f j = g j) : sgnN n f = sgnN n g := by
  induction n with
  | zero => rfl
  | succ n ih =>
    show (if sgnN n f = 0 ∧ f n ≠ 0 then (if f n < 0 then (-1 : Int) else 1) else sgnN n f) = (if sgnN n g = 0 ∧ g n ≠ 0 then (if g n < 0 then (-1 : Int) else 1) else sgnN n g)
    rw [ih fun j hj => h j (by omega), h n (by omega)]
theorem sgnN_or (n : Nat) (f : Nat → Int) : sgnN n f = 0 ∨ sgnN n f = 1 ∨ sgnN n f = -1 := by
  induction n with
  | zero => exact .inl rfl
  | succ n ih =>
    have e : sgnN (n + 1) f = if sgnN n f = 0 ∧ f n ≠ 0 then (if f n < 0 then (-1 : Int) else 1) else sgnN n f := rfl
    rw [e]
    by_cases h : sgnN n f = 0 ∧ f n ≠ 0
    · rw [if_pos h]
      by_cases h2 : f n < 0
      · rw [if_pos h2]; exact .inr (.inr rfl)
      · rw [if_neg h2]; exact .inr (.inl rfl)
    · rw [if_neg h]; exact ih
theorem sgnN_none {n : Nat} {f : Nat → Int} : sgnN n f = 0 → ∀ j, j < n → f j = 0 := by
  induction n with
  | zero => intro _ j hj; omega
  | succ n ih =>
    intro h j hj
    have h' : (if sgnN n f = 0 ∧ f n ≠ 0 then (if f n < 0 then (-1 : Int) else 1) else sgnN n f) = 0 := h
    by_cases hc : sgnN n f = 0 ∧ f n ≠ 0
    · rw [if_pos hc] at h'
      split at h' <;> cases h'
    · rw [if_neg hc] at h'
      rcases Nat.lt_or_ge j n with h1 | h1
      · exact ih h' j h1
      · obtain rfl : j = n := by omega
        exact Classical.byContradiction fun h2 => hc ⟨h', h2⟩
theorem sgnN_all {n : Nat} {f : Nat → Int} (h : ∀ j, j < n → f j = 0) : sgnN n f = 0 := by
  induction n with
  | zero => rfl
  | succ n ih =>
    show (if sgnN n f = 0 ∧ f n ≠ 0 then (if f n < 0 then (-1 : Int) else 1) else sgnN n f) = 0
    rw [if_neg (fun hc => hc.2 (h n (by omega)))]
    exact ih fun j hj => h j (by omega)
/-- The sign is that of the first one. -/
theorem sgnN_first {n : Nat} {f : Nat → Int} {j : Nat} (hj : j < n) (h0 : ∀ i, i < j → f i = 0) (hn : f j ≠ 0) : sgnN n f = if f j < 0 then -1 else 1 := by
  induction n with
  | zero => omega
  | succ n ih =>
    show (if sgnN n f = 0 ∧ f n ≠ 0 then (if f n < 0 then (-1 : Int) else 1) else sgnN n f) = _
    rcases Nat.lt_or_ge j n with h | h
    · have e := ih h
      rw [if_neg (fun hc => by rw [e] at hc; have := hc.1; split at this <;> cases this)]
      exact e
    · obtain rfl : j = n := by omega
      rw [if_pos ⟨sgnN_all h0, hn⟩]
/-- A row without its divisor, with its sign. -/
def prV (c : Nat) (v : Nat → Int) : Nat → Int := fun j => if gcdN c v = 0 then v j else (sgnN c v * v j).tdiv (gcdN c v)
theorem prV_congr {c : Nat} {u v : Nat → Int} (h : ∀ j, j < c → u j = v j) : ∀ j, j < c → prV c u j = prV c v j := fun j hj => by
  unfold prV
  rw [gcdN_congr h, sgnN_congr h, h j hj]
/-- A row whose divisor is 1 (or 0) and whose first number that is not 0 is positive. -/
def Norm (c : Nat) (v : Nat → Int) : Prop := (gcdN c v = 0 ∨ gcdN c v = 1) ∧ (sgnN c v = 0 ∨ sgnN c v = 1)
theorem Norm.congr {c : Nat} {u v : Nat → Int} (h : Norm c u) (e : ∀ j, j < c → v j = u j) : Norm c v := by
  unfold Norm at *
  rw [gcdN_congr e, sgnN_congr e]
  exact h
theorem prV_mul {c : Nat} {v : Nat → Int} {j : Nat} (hj : j < c) (hg : gcdN c v ≠ 0) : gcdN c v * prV c v j = sgnN c v * v j := by
  unfold prV
  rw [if_neg hg]
  exact Int.mul_tdiv_cancel' (Int.dvd_trans (gcdN_dvd j hj) (Int.dvd_mul_left _ _))
theorem prV_id {c : Nat} {v : Nat → Int} (h : Norm c v) {j : Nat} (hj : j < c) : prV c v j = v j := by
  by_cases hg : gcdN c v = 0
  · unfold prV; rw [if_pos hg]
  · have h1 : gcdN c v = 1 := h.1.resolve_left hg
    have hs : sgnN c v = 1 := h.2.resolve_left (fun e => hg (gcdN_all (sgnN_none e)))
    have := prV_mul hj hg
    rw [h1, hs, Int.one_mul, Int.one_mul] at this
    exact this
theorem sgnN_ne {c : Nat} {v : Nat → Int} (hg : gcdN c v ≠ 0) : sgnN c v ≠ 0 := fun e => hg (gcdN_all (sgnN_none e))
theorem prV_zero {c : Nat} {v : Nat → Int} {j : Nat} (hj : j < c) : prV c v j = 0 ↔ v j = 0 := by
  by_cases hg : gcdN c v = 0
  · unfold prV; rw [if_pos hg]
  · have e := prV_mul hj hg
    have hs := sgnN_ne hg
    constructor
    · intro h
      rw [h, Int.mul_zero] at e
      rcases Int.mul_eq_zero.mp e.symm with h1 | h1
      · exact absurd h1 hs
      · exact h1
    · intro h
      rw [h, Int.mul_zero] at e
      rcases Int.mul_eq_zero.mp e with h1 | h1
      · exact absurd h1 hg
      · exact h1
theorem exists_first {c : Nat} {v : Nat → Int} (h : ∃ j, j < c ∧ v j ≠ 0) : ∃ j, j < c ∧ v j ≠ 0 ∧ ∀ i, i < j → v i = 0 := by
  obtain ⟨j, hj, hv⟩ := h
  induction j using Nat.strongRecOn with
  | ind j ih =>
    by_cases h : ∃ i, i < j ∧ v i ≠ 0
    · obtain ⟨i, hi, hvi⟩ := h
      exact ih i hi (by omega) hvi
    · exact ⟨j, hj, hv, fun i hi => Classical.byContradiction fun h1 => h ⟨i, hi, h1⟩⟩
theorem prV_norm (c : Nat) (v : Nat → Int) : Norm c (prV c v) := by
  by_cases hg : gcdN c v = 0
  · have h0 := gcdN_none hg
    have h1 : ∀ j, j < c → prV c v j = 0 := fun j hj => (prV_zero hj).mpr (h0 j hj)
    exact ⟨.inl (gcdN_all h1), .inl (sgnN_all h1)⟩
  · have g0 := gcdN_nonneg c v
    have hs := sgnN_ne hg
    have hne : ∃ j, j < c ∧ v j ≠ 0 := Classical.byContradiction fun hn => hg (gcdN_all fun j hj => Classical.byContradiction fun h1 => hn ⟨j, hj, h1⟩)
    refine ⟨.inr ?_, .inr ?_⟩
    · -- the product of both divisors divides all
      obtain ⟨e, he⟩ : ∃ e, gcdN c (prV c v) = e := ⟨_, rfl⟩
      have e0 := gcdN_nonneg c (prV c v)
      have hd : gcdN c v * e ∣ gcdN c v := gcdN_max fun j hj => by
        obtain ⟨q, hq⟩ := gcdN_dvd (f := prV c v) j hj
        have := prV_mul hj hg
        rw [hq, he] at this
        rcases sgnN_or c v with h1 | h1 | h1
        · exact absurd h1 hs
        · rw [h1, Int.one_mul] at this
          exact ⟨q, by rw [← this]; grind⟩
        · rw [h1] at this
          exact ⟨-q, by grind⟩
      obtain ⟨k, hk⟩ := hd
      have h1 : gcdN c v * (e * k) = gcdN c v * 1 := by rw [Int.mul_one, ← Int.mul_assoc]; exact hk.symm
      have h2 : e * k = 1 := Int.eq_of_mul_eq_mul_left hg h1
      rw [he] at e0 ⊢
      exact Int.eq_one_of_mul_eq_one_right e0 h2
    · obtain ⟨j, hj, hvj, h0⟩ := exists_first hne
      have hp : prV c v j ≠ 0 := fun e => hvj ((prV_zero hj).mp e)
      rw [sgnN_first hj (fun i hi => (prV_zero (by omega)).mpr (h0 i hi)) hp]
      have e := prV_mul hj hg
      have es := sgnN_first hj h0 hvj
      rw [es] at e
      rw [if_neg]
      intro hneg
      have hl : gcdN c v * prV c v j < 0 := Int.mul_neg_of_pos_of_neg (by omega) hneg
      split at e <;> omega
theorem prV_num {c : Nat} {v : Nat → Int} (h : ∀ j, j < c → NumP (v j)) {j : Nat} (hj : j < c) : NumP (prV c v j) := by
  unfold prV
  split
  · exact h j hj
  · have hb := h j hj
    have g0 := gcdN_nonneg c v
    obtain ⟨x, hx⟩ : ∃ x, sgnN c v * v j = x := ⟨_, rfl⟩
    have hxb : NumP x := by
      rw [← hx]
      unfold NumP at hb ⊢
      rcases sgnN_or c v with h1 | h1 | h1 <;> rw [h1] <;> omega
    rw [hx]
    unfold NumP at hxb ⊢
    have : (x.tdiv (gcdN c v)).natAbs ≤ x.natAbs := by
      rw [Int.natAbs_tdiv]
      exact Nat.div_le_self _ _
    omega
/-- A row and the primitive one span the same. -/
theorem prV_in {r c i : Nat} {A : Mx} (hi : i < r) {v : Nat → Int} (h : ∀ j, j < c → A i j = v j) : InSp r c A (prV c v) := by
  by_cases hg : gcdN c v = 0
  · exact (InSp.row hi).congr fun j hj => by unfold prV; rw [if_pos hg, h j hj]
  · refine InSp.of_mul hg (((InSp.row (c := c) hi).add (InSp.zero r c A) (sgnN c v) 0).congr fun j hj => ?_)
    rw [prV_mul hj hg, h j hj]; simp
theorem of_prV {r c i : Nat} {A : Mx} (hi : i < r) {v : Nat → Int} (h : ∀ j, j < c → A i j = prV c v j) : InSp r c A v := by
  by_cases hg : gcdN c v = 0
  · exact (InSp.row hi).congr fun j hj => by rw [h j hj]; unfold prV; rw [if_pos hg]
  · refine InSp.of_mul (sgnN_ne hg) (((InSp.row (c := c) hi).add (InSp.zero r c A) (gcdN c v) 0).congr fun j hj => ?_)
    rw [h j hj, ← prV_mul hj hg]; simp
theorem Norm.prim {c : Nat} {v : Nat → Int} (h : Norm c v) {j : Nat} (hj : j < c) (hv : v j ≠ 0) : Prim c v := fun g hg hd => by
  have h1 : gcdN c v = 1 := h.1.resolve_left (fun e => hv (gcdN_none e j hj))
  have := gcdN_max hd
  rw [h1] at this
  have := Int.le_of_dvd (by decide) this
  omega
theorem Norm.pos {c : Nat} {v : Nat → Int} (h : Norm c v) {j : Nat} (hj : j < c) (h0 : ∀ i, i < j → v i = 0) (hv : v j ≠ 0) : 0 < v j := by
  have e := sgnN_first hj h0 hv
  have hs : sgnN c v = 1 := h.2.resolve_left (fun e => hv (sgnN_none e j hj))
  rw [hs] at e
  split at e
  · cases e
  · omega
end Go.Proofs.Ytpelnfenfeoeeaa
end

section
/-
  Plain mathematics of chapter 7: elimination over lists of cells with primitive rows ends in the echelon form. Nothing of a program is used.
-/
namespace Go.Proofs.Ytpelnfenfeoeeaa

/-- The matrix of a list of cells, c columns. -/
def mxC (c : Nat) (xs : List Int) : Mx := fun i j => xs.getD (i * c + j) 0
theorem mxC_tab {r c : Nat} {f : Nat → Nat → Int} {i j : Nat} (hi : i < r) (hj : j < c) : mxC c (tab r c f) i j = f i j := tab_at r c f hi hj
/-- One row made primitive. -/
def prL (r c i : Nat) (xs : List Int) : List Int := tab r c fun p q => if p = i then prV c (mxC c xs i) q else mxC c xs p q
/-- The rows before i made primitive. -/
def prTo (r c i : Nat) (xs : List Int) : List Int := tab r c fun p q => if p < i then prV c (mxC c xs p) q else mxC c xs p q
/-- A row less a multiple of another one, so that there is 0 in column j. -/
def rdV (j : Nat) (u v : Nat → Int) : Nat → Int := fun k => (v j).tdiv ((u j).gcd (v j)) * u k - (u j).tdiv ((u j).gcd (v j)) * v k
def rowN (c : Nat) (v : Nat → Int) : Bool := nums ((List.range c).map v)
def rdL (r c t j i : Nat) (xs : List Int) : List Int := tab r c fun p q => if p = i then prV c (rdV j (mxC c xs i) (mxC c xs t)) q else mxC c xs p q
/-- k rows from row i on without the cell in column j. -/
def elimR (r c t j : Nat) : Nat → Nat → List Int → Option (List Int)
  | 0, _, xs => some xs
  | k + 1, i, xs => if i = t ∨ mxC c xs i j = 0 then elimR r c t j k (i + 1) xs
    else if rowN c (rdV j (mxC c xs i) (mxC c xs t)) = true then elimR r c t j k (i + 1) (rdL r c t j i xs) else none
/-- The first row from p on (k rows are left) with a cell in column j that is not 0. -/
def fstR (c j : Nat) (xs : List Int) : Nat → Nat → Nat
  | 0, p => p
  | k + 1, p => if mxC c xs p j = 0 then fstR c j xs k (p + 1) else p
/-- The rows p and t swapped. -/
def swC (p t c : Nat) (xs : List Int) : List Int := if p = t then xs else opL 0 p t 0 c xs
/-- k columns from column j on. -/
def echC (r c : Nat) : Nat → Nat → List Int → List Nat → Option (List Int × List Nat)
  | 0, _, xs, pv => some (xs, pv)
  | k + 1, j, xs, pv =>
    if pv.length < r then
      if fstR c j xs (r - pv.length) pv.length = r then echC r c k (j + 1) xs pv
      else match elimR r c pv.length j r 0 (swC (fstR c j xs (r - pv.length) pv.length) pv.length c xs) with
        | none => none
        | some ys => echC r c k (j + 1) ys (pv ++ [j])
    else some (xs, pv)
def echM (r c : Nat) (xs : List Int) : Option (List Int × List Nat) := echC r c c 0 (prTo r c r xs) []
theorem fstR_says {c j : Nat} {xs : List Int} : ∀ {k p : Nat}, p ≤ fstR c j xs k p ∧ fstR c j xs k p ≤ p + k ∧ (∀ q, p ≤ q → q < fstR c j xs k p → mxC c xs q j = 0) ∧ (fstR c j xs k p < p + k → mxC c xs (fstR c j xs k p) j ≠ 0) := by
  intro k
  induction k with
  | zero => intro p; exact ⟨Nat.le_refl _, Nat.le_refl _, fun q h1 h2 => absurd h2 (by show ¬ q < p; omega), fun h => absurd h (by show ¬ p < p + 0; omega)⟩
  | succ k ih =>
    intro p
    by_cases h : mxC c xs p j = 0
    · have e : fstR c j xs (k + 1) p = fstR c j xs k (p + 1) := if_pos h
      rw [e]
      obtain ⟨h1, h2, h3, h4⟩ := ih (p := p + 1)
      refine ⟨by omega, by omega, fun q h5 h6 => ?_, fun h5 => h4 (by omega)⟩
      rcases Nat.lt_or_ge p q with h7 | h7
      · exact h3 q h7 h6
      · obtain rfl : q = p := by omega
        exact h
    · have e : fstR c j xs (k + 1) p = p := if_neg h
      rw [e]
      exact ⟨Nat.le_refl _, by omega, fun q h1 h2 => by omega, fun _ => h⟩
theorem fstR_eq {c j : Nat} {xs : List Int} : ∀ {k p q : Nat}, p ≤ q → q ≤ p + k → (∀ i, p ≤ i → i < q → mxC c xs i j = 0) → (q < p + k → mxC c xs q j ≠ 0) → fstR c j xs k p = q := by
  intro k
  induction k with
  | zero => intro p q h1 h2 _ _; show p = q; omega
  | succ k ih =>
    intro p q h1 h2 hz hn
    show (if mxC c xs p j = 0 then fstR c j xs k (p + 1) else p) = q
    rcases Nat.lt_or_ge p q with h | h
    · rw [if_pos (hz p (Nat.le_refl _) h)]
      exact ih (by omega) (by omega) (fun i h3 h4 => hz i (by omega) h4) (fun h3 => hn (by omega))
    · obtain rfl : p = q := by omega
      rw [if_neg (hn (by omega))]
theorem opL_swapC {r c p t i j : Nat} {xs : List Int} (hx : xs.length = r * c) (hi : i < r) (hj : j < c) : mxC c (opL 0 p t 0 c xs) i j = mxC c xs (if i = p then t else if i = t then p else i) j := by
  have hp : i * c + j < xs.length := by rw [hx]; exact idx_lt hi hj
  unfold mxC opL
  simp only [List.getD, List.getElem?_map, List.getElem?_range hp, Option.map_some, Option.getD_some]
  unfold opAt
  rw [if_pos rfl, idx_div hj, idx_mod hj]
  by_cases h1 : i = p
  · rw [if_pos h1, if_pos h1]; rfl
  · rw [if_neg h1, if_neg h1]
    by_cases h2 : i = t
    · rw [if_pos h2, if_pos h2]; rfl
    · rw [if_neg h2, if_neg h2]; rfl
theorem swC_at {r c p t i j : Nat} {xs : List Int} (hx : xs.length = r * c) (hi : i < r) (hj : j < c) : mxC c (swC p t c xs) i j = mxC c xs (if i = p then t else if i = t then p else i) j := by
  unfold swC
  by_cases h : p = t
  · rw [if_pos h, h]
    by_cases h1 : i = t
    · rw [if_pos h1, h1]
    · rw [if_neg h1, if_neg h1]
  · rw [if_neg h, opL_swapC hx hi hj]
theorem swC_length (p t c : Nat) (xs : List Int) : (swC p t c xs).length = xs.length := by unfold swC; split; rfl; exact opL_length _ _ _ _ _ _
theorem gcd_pos' {x y : Int} (hy : y ≠ 0) : 0 < (x.gcd y : Int) := by
  have := Int.gcd_pos_of_ne_zero_right x hy
  omega
theorem rdV_col {u v : Nat → Int} {j : Nat} : rdV j u v j = 0 := by
  unfold rdV
  obtain ⟨a, ha⟩ : ((u j).gcd (v j) : Int) ∣ u j := Int.gcd_dvd_left ..
  obtain ⟨b, hb⟩ : ((u j).gcd (v j) : Int) ∣ v j := Int.gcd_dvd_right ..
  by_cases hg : ((u j).gcd (v j) : Int) = 0
  · rw [hg]; simp
  · obtain ⟨g, hgg⟩ : ∃ g, ((u j).gcd (v j) : Int) = g := ⟨_, rfl⟩
    rw [hgg] at ha hb hg ⊢
    have e1 : (u j).tdiv g = a := by rw [ha, Int.mul_tdiv_cancel_left _ hg]
    have e2 : (v j).tdiv g = b := by rw [hb, Int.mul_tdiv_cancel_left _ hg]
    rw [e1, e2, ha, hb]
    grind
theorem rdV_fac {u v : Nat → Int} {j : Nat} (hv : 0 < v j) : 0 < (v j).tdiv ((u j).gcd (v j)) := by
  obtain ⟨b, hb⟩ : ((u j).gcd (v j) : Int) ∣ v j := Int.gcd_dvd_right ..
  have hg := gcd_pos' (x := u j) (show v j ≠ 0 by omega)
  obtain ⟨g, hgg⟩ : ∃ g, ((u j).gcd (v j) : Int) = g := ⟨_, rfl⟩
  rw [hgg] at hb hg ⊢
  rw [hb, Int.mul_tdiv_cancel_left _ (by omega)]
  rw [hb] at hv
  exact Int.pos_of_mul_pos_right hv hg
theorem rdV_left {u v : Nat → Int} {j q : Nat} (hv : v q = 0) : rdV j u v q = (v j).tdiv ((u j).gcd (v j)) * u q := by
  unfold rdV
  rw [hv, Int.mul_zero]; omega
theorem InSp.prV {r c : Nat} {A : Mx} {v : Nat → Int} (h : InSp r c A v) : InSp r c A (prV c v) := by
  by_cases hg : gcdN c v = 0
  · exact h.congr fun j hj => by unfold Go.Proofs.Ytpelnfenfeoeeaa.prV; rw [if_pos hg]
  · refine InSp.of_mul hg ((h.add (InSp.zero r c A) (sgnN c v) 0).congr fun j hj => ?_)
    rw [prV_mul hj hg]; simp
/-- What holds in the middle: the columns before j are done, those of the pivots pv among them. -/
structure EInv (r c : Nat) (M : Mx) (xs : List Int) (pv : List Nat) (j : Nat) : Prop where
  len : xs.length = r * c
  num : nums xs = true
  le : pv.length ≤ r
  jc : j ≤ c
  toM : SubSp r r c (mxC c xs) M
  ofM : SubSp r r c M (mxC c xs)
  norm : ∀ i, i < r → Norm c (mxC c xs i)
  col : ∀ k, k < pv.length → pv.getD k 0 < j
  inc : ∀ k l, k < l → l < pv.length → pv.getD k 0 < pv.getD l 0
  ne : ∀ k, k < pv.length → mxC c xs k (pv.getD k 0) ≠ 0
  only : ∀ k i, k < pv.length → i < r → i ≠ k → mxC c xs i (pv.getD k 0) = 0
  left : ∀ k q, k < pv.length → q < pv.getD k 0 → mxC c xs k q = 0
  rest : ∀ i q, pv.length ≤ i → i < r → q < j → mxC c xs i q = 0
theorem mx_nums {r c : Nat} {xs : List Int} (hx : xs.length = r * c) (h : nums xs = true) {i j : Nat} (hi : i < r) (hj : j < c) : NumP (mxC c xs i j) := nums_at h (by rw [hx]; exact idx_lt hi hj)
theorem tab_nums {r c : Nat} {f : Nat → Nat → Int} (h : ∀ i j, i < r → j < c → NumP (f i j)) : nums (tab r c f) = true := nums_true fun p hp => by
  rw [tab_length] at hp
  have hc : 0 < c := by
    rcases Nat.eq_zero_or_pos c with e | e
    · subst e; omega
    · exact e
  have e : p = p / c * c + p % c := by rw [Nat.mul_comm]; exact (Nat.div_add_mod p c).symm
  rw [e, tab_at r c _ (Nat.div_lt_of_lt_mul (by rw [Nat.mul_comm]; exact hp)) (Nat.mod_lt p hc)]
  exact h _ _ (Nat.div_lt_of_lt_mul (by rw [Nat.mul_comm]; exact hp)) (Nat.mod_lt p hc)
theorem EInv.start {r c : Nat} {xs : List Int} (hx : xs.length = r * c) (hn : nums xs = true) : EInv r c (mxC c xs) (prTo r c r xs) [] 0 where
  len := tab_length _ _ _
  num := tab_nums fun i j hi hj => by
    rw [if_pos hi]
    exact prV_num (fun q hq => mx_nums hx hn hi hq) hj
  le := Nat.zero_le _
  jc := Nat.zero_le _
  toM := fun i hi => (InSp.prV (InSp.row (A := mxC c xs) hi)).congr fun j hj => by
    show mxC c (tab r c _) i j = _
    rw [mxC_tab hi hj, if_pos hi]
  ofM := fun i hi => of_prV hi fun j hj => by
    show mxC c (tab r c _) i j = _
    rw [mxC_tab hi hj, if_pos hi]
  norm := fun i hi => (prV_norm c (mxC c xs i)).congr fun j hj => by
    show mxC c (tab r c _) i j = _
    rw [mxC_tab hi hj, if_pos hi]
  col := fun k hk => absurd hk (Nat.not_lt_zero _)
  inc := fun k l _ hl => absurd hl (Nat.not_lt_zero _)
  ne := fun k hk => absurd hk (Nat.not_lt_zero _)
  only := fun k i hk => absurd hk (Nat.not_lt_zero _)
  left := fun k q hk => absurd hk (Nat.not_lt_zero _)
  rest := fun i q _ _ hq => absurd hq (Nat.not_lt_zero _)
/-- A column without a pivot. -/
theorem EInv.skip {r c : Nat} {M : Mx} {xs : List Int} {pv : List Nat} {j : Nat} (h : EInv r c M xs pv j) (hj : j < c) (hz : ∀ i, pv.length ≤ i → i < r → mxC c xs i j = 0) : EInv r c M xs pv (j + 1) :=
  { h with
    jc := hj
    col := fun k hk => by have := h.col k hk; omega
    rest := fun i q hi hir hq => by
      rcases Nat.lt_or_ge q j with h1 | h1
      · exact h.rest i q hi hir h1
      · obtain rfl : q = j := by omega
        exact hz i hi hir }
/-- The pivot's row is swapped with row t. -/
theorem EInv.swap {r c : Nat} {M : Mx} {xs : List Int} {pv : List Nat} {j p : Nat} (h : EInv r c M xs pv j) (hp : pv.length ≤ p) (hpr : p < r) : EInv r c M (swC p pv.length c xs) pv j := by
  have at_ : ∀ i q, i < r → q < c → mxC c (swC p pv.length c xs) i q = mxC c xs (if i = p then pv.length else if i = pv.length then p else i) q := fun i q hi hq => swC_at h.len hi hq
  have low : ∀ i q, i < pv.length → q < c → mxC c (swC p pv.length c xs) i q = mxC c xs i q := fun i q hi hq => by rw [at_ i q (by omega) hq, if_neg (by omega), if_neg (by omega)]
  have big : ∀ i, pv.length ≤ i → i < r → pv.length ≤ (if i = p then pv.length else if i = pv.length then p else i) ∧ (if i = p then pv.length else if i = pv.length then p else i) < r := fun i h1 h2 => by
    split
    · omega
    · split <;> omega
  have any : ∀ i, i < r → (if i = p then pv.length else if i = pv.length then p else i) < r := fun i hi => by
    split
    · omega
    · split <;> omega
  refine ⟨by rw [swC_length]; exact h.len, ?_, h.le, h.jc, ?_, ?_, ?_, h.col, h.inc, ?_, ?_, ?_, ?_⟩
  · refine nums_true fun k hk => ?_
    rw [swC_length, h.len] at hk
    have hc : 0 < c := by
      rcases Nat.eq_zero_or_pos c with e | e
      · subst e; omega
      · exact e
    have e : k = k / c * c + k % c := by rw [Nat.mul_comm]; exact (Nat.div_add_mod k c).symm
    have h1 : k / c < r := Nat.div_lt_of_lt_mul (by rw [Nat.mul_comm]; exact hk)
    have := at_ (k / c) (k % c) h1 (Nat.mod_lt k hc)
    unfold mxC at this
    rw [e, this]
    exact mx_nums h.len h.num (any _ h1) (Nat.mod_lt k hc)
  · intro i hi
    exact (h.toM _ (any i hi)).congr fun q hq => at_ i q hi hq
  · intro i hi
    refine SubSp.mem (A := mxC c xs) (fun i hi => ?_) (h.ofM i hi)
    refine (InSp.row (A := mxC c (swC p pv.length c xs)) (any i hi)).congr fun q hq => ?_
    rw [at_ _ q (any i hi) hq]
    by_cases e1 : i = p
    · rw [if_pos e1]
      by_cases e2 : pv.length = p
      · rw [if_pos e2, e1, e2]
      · rw [if_neg e2, if_pos rfl, e1]
    · rw [if_neg e1]
      by_cases e2 : i = pv.length
      · rw [if_pos e2, if_pos rfl, e2]
      · rw [if_neg e2, if_neg e1, if_neg e2]
  · intro i hi
    exact (h.norm _ (any i hi)).congr fun q hq => at_ i q hi hq
  · intro k hk
    have := h.col k hk
    have := h.jc
    rw [low k _ hk (by omega)]
    exact h.ne k hk
  · intro k i hk hi hne
    have h1 := h.col k hk
    have h2 := h.jc
    rw [at_ i _ hi (by omega)]
    refine h.only k _ hk (any i hi) ?_
    split
    · omega
    · split <;> omega
  · intro k q hk hq
    have h1 := h.col k hk
    have h2 := h.jc
    rw [low k q hk (by omega)]
    exact h.left k q hk hq
  · intro i q hi hir hq
    have h2 := h.jc
    rw [at_ i q hir (by omega)]
    exact h.rest _ q (big i hi hir).1 (big i hi hir).2 hq
/-- One row without its cell in column j. -/
theorem EInv.reduce {r c : Nat} {M : Mx} {xs : List Int} {pv : List Nat} {j i : Nat} (h : EInv r c M xs pv j) (ht : pv.length < r) (hj : j < c) (hi : i < r) (hit : i ≠ pv.length) (hy : mxC c xs pv.length j ≠ 0) (hn : rowN c (rdV j (mxC c xs i) (mxC c xs pv.length)) = true) :
    EInv r c M (rdL r c pv.length j i xs) pv j ∧ (∀ p q, p < r → q < c → p ≠ i → mxC c (rdL r c pv.length j i xs) p q = mxC c xs p q) ∧ mxC c (rdL r c pv.length j i xs) i j = 0 := by
  obtain ⟨v, hv⟩ : ∃ v, rdV j (mxC c xs i) (mxC c xs pv.length) = v := ⟨_, rfl⟩
  have hyp : 0 < mxC c xs pv.length j := (h.norm _ ht).pos hj (fun q hq => h.rest _ q (Nat.le_refl _) ht hq) hy
  have fac := rdV_fac (u := mxC c xs i) (v := mxC c xs pv.length) (j := j) hyp
  have oth : ∀ p q, p < r → q < c → p ≠ i → mxC c (rdL r c pv.length j i xs) p q = mxC c xs p q := fun p q hp hq hne => by unfold rdL; rw [mxC_tab hp hq, if_neg hne]
  have own : ∀ q, q < c → mxC c (rdL r c pv.length j i xs) i q = prV c v q := fun q hq => by unfold rdL; rw [mxC_tab hi hq, if_pos rfl, hv]
  have lft : ∀ q, q < j → v q = (mxC c xs pv.length j).tdiv ((mxC c xs i j).gcd (mxC c xs pv.length j)) * mxC c xs i q := fun q hq => by rw [← hv]; exact rdV_left (h.rest _ q (Nat.le_refl _) ht hq)
  have zer : ∀ q, q < j → (mxC c (rdL r c pv.length j i xs) i q = 0 ↔ mxC c xs i q = 0) := fun q hq => by
    rw [own q (by omega), prV_zero (by omega), lft q hq]
    constructor
    · intro e; exact (Int.mul_eq_zero.mp e).resolve_left (by omega)
    · intro e; rw [e, Int.mul_zero]
  have vn : ∀ q, q < c → NumP (v q) := fun q hq => by
    have := nums_at hn (j := q) (by simpa using hq)
    rw [hv] at this
    simpa [List.getD, hq] using this
  have hvin : InSp r c (mxC c xs) v := ((InSp.row (c := c) hi).add (InSp.row ht) ((mxC c xs pv.length j).tdiv ((mxC c xs i j).gcd (mxC c xs pv.length j))) (-((mxC c xs i j).tdiv ((mxC c xs i j).gcd (mxC c xs pv.length j))))).congr fun q hq => by
    rw [← hv]; unfold rdV; grind
  refine ⟨⟨tab_length _ _ _, ?_, h.le, h.jc, ?_, ?_, ?_, h.col, h.inc, ?_, ?_, ?_, ?_⟩, oth, ?_⟩
  · refine tab_nums fun p q hp hq => ?_
    by_cases e : p = i
    · rw [if_pos e, hv]; exact prV_num vn hq
    · rw [if_neg e]; exact mx_nums h.len h.num hp hq
  · intro p hp
    by_cases e : p = i
    · subst e
      exact (h.toM.mem hvin.prV).congr own
    · exact (h.toM p hp).congr fun q hq => oth p q hp hq e
  · refine SubSp.trans h.ofM fun p hp => ?_
    by_cases e : p = i
    · subst e
      have hv' : InSp r c (mxC c (rdL r c pv.length j p xs)) v := of_prV hp own
      have ht' : InSp r c (mxC c (rdL r c pv.length j p xs)) (mxC c xs pv.length) := (InSp.row (c := c) ht).congr fun q hq => (oth _ q ht hq (fun e => hit e.symm)).symm
      refine InSp.of_mul (d := (mxC c xs pv.length j).tdiv ((mxC c xs p j).gcd (mxC c xs pv.length j))) (by omega) ((hv'.add ht' 1 ((mxC c xs p j).tdiv ((mxC c xs p j).gcd (mxC c xs pv.length j)))).congr fun q hq => ?_)
      rw [← hv]; unfold rdV; grind
    · exact (InSp.row (A := mxC c (rdL r c pv.length j i xs)) hp).congr fun q hq => (oth p q hp hq e).symm
  · intro p hp
    by_cases e : p = i
    · subst e
      exact (prV_norm c v).congr own
    · exact (h.norm p hp).congr fun q hq => oth p q hp hq e
  · intro k hk
    have h1 := h.col k hk
    by_cases e : k = i
    · subst e
      exact fun e => h.ne k hk ((zer _ h1).mp e)
    · rw [oth k _ (by omega) (by omega) e]; exact h.ne k hk
  · intro k p hk hp hne
    have h1 := h.col k hk
    by_cases e : p = i
    · subst e
      exact (zer _ h1).mpr (h.only k p hk hp hne)
    · rw [oth p _ hp (by omega) e]; exact h.only k p hk hp hne
  · intro k q hk hq
    have h1 := h.col k hk
    by_cases e : k = i
    · subst e
      exact (zer q (by omega)).mpr (h.left k q hk hq)
    · rw [oth k q (by omega) (by omega) e]; exact h.left k q hk hq
  · intro p q hp hpr hq
    by_cases e : p = i
    · subst e
      exact (zer q hq).mpr (h.rest p q hp hpr hq)
    · rw [oth p q hpr (by omega) e]; exact h.rest p q hp hpr hq
  · rw [own j hj, prV_zero hj, ← hv]
    exact rdV_col
theorem EInv.elim {r c : Nat} {M : Mx} {pv : List Nat} {j : Nat} (ht : pv.length < r) (hj : j < c) : ∀ (k i : Nat) (xs ys : List Int), i + k = r → EInv r c M xs pv j → mxC c xs pv.length j ≠ 0 → (∀ p, p < i → p ≠ pv.length → mxC c xs p j = 0) → elimR r c pv.length j k i xs = some ys →
    EInv r c M ys pv j ∧ mxC c ys pv.length j ≠ 0 ∧ ∀ p, p < r → p ≠ pv.length → mxC c ys p j = 0 := by
  intro k
  induction k with
  | zero =>
    intro i xs ys hik h hy hz he
    obtain rfl : i = r := by omega
    injection he with he
    subst he
    exact ⟨h, hy, fun p hp hne => hz p hp hne⟩
  | succ k ih =>
    intro i xs ys hik h hy hz he
    have he' : (if i = pv.length ∨ mxC c xs i j = 0 then elimR r c pv.length j k (i + 1) xs else if rowN c (rdV j (mxC c xs i) (mxC c xs pv.length)) = true then elimR r c pv.length j k (i + 1) (rdL r c pv.length j i xs) else none) = some ys := he
    by_cases h1 : i = pv.length ∨ mxC c xs i j = 0
    · rw [if_pos h1] at he'
      refine ih (i + 1) xs ys (by omega) h hy (fun p hp hne => ?_) he'
      rcases Nat.lt_or_ge p i with h2 | h2
      · exact hz p h2 hne
      · obtain rfl : p = i := by omega
        exact h1.resolve_left hne
    · rw [if_neg h1] at he'
      by_cases h2 : rowN c (rdV j (mxC c xs i) (mxC c xs pv.length)) = true
      · rw [if_pos h2] at he'
        have hi : i < r := by omega
        have hit : i ≠ pv.length := fun e => h1 (.inl e)
        obtain ⟨hr, ho, h0⟩ := h.reduce ht hj hi hit hy h2
        refine ih (i + 1) _ ys (by omega) hr (by rw [ho _ _ ht hj (fun e => hit e.symm)]; exact hy) (fun p hp hne => ?_) he'
        by_cases e : p = i
        · rw [e]; exact h0
        · rw [ho p j (by omega) hj e]; exact hz p (by omega) hne
      · rw [if_neg h2] at he'
        cases he'
/-- A column with a pivot. -/
theorem EInv.pivot {r c : Nat} {M : Mx} {xs : List Int} {pv : List Nat} {j : Nat} (h : EInv r c M xs pv j) (ht : pv.length < r) (hj : j < c) (hy : mxC c xs pv.length j ≠ 0) (hz : ∀ p, p < r → p ≠ pv.length → mxC c xs p j = 0) : EInv r c M xs (pv ++ [j]) (j + 1) := by
  have hl : (pv ++ [j]).length = pv.length + 1 := by simp
  have old : ∀ k, k < pv.length → (pv ++ [j]).getD k 0 = pv.getD k 0 := fun k hk => by rw [List.getD, List.getD, List.getElem?_append_left hk]
  have new : (pv ++ [j]).getD pv.length 0 = j := by simp [List.getD]
  refine ⟨h.len, h.num, by omega, hj, h.toM, h.ofM, h.norm, ?_, ?_, ?_, ?_, ?_, ?_⟩
  · intro k hk
    rcases Nat.lt_or_ge k pv.length with h1 | h1
    · rw [old k h1]; have := h.col k h1; omega
    · obtain rfl : k = pv.length := by omega
      rw [new]; omega
  · intro k l hkl hll
    rcases Nat.lt_or_ge l pv.length with h1 | h1
    · rw [old k (by omega), old l h1]; exact h.inc k l hkl h1
    · obtain rfl : l = pv.length := by omega
      rw [old k hkl, new]; exact h.col k hkl
  · intro k hk
    rcases Nat.lt_or_ge k pv.length with h1 | h1
    · rw [old k h1]; exact h.ne k h1
    · obtain rfl : k = pv.length := by omega
      rw [new]; exact hy
  · intro k i hk hi hne
    rcases Nat.lt_or_ge k pv.length with h1 | h1
    · rw [old k h1]; exact h.only k i h1 hi hne
    · obtain rfl : k = pv.length := by omega
      rw [new]; exact hz i hi hne
  · intro k q hk hq
    rcases Nat.lt_or_ge k pv.length with h1 | h1
    · rw [old k h1] at hq; exact h.left k q h1 hq
    · obtain rfl : k = pv.length := by omega
      rw [new] at hq; exact h.rest _ q (Nat.le_refl _) ht hq
  · intro i q hi hir hq
    rcases Nat.lt_or_ge q j with h1 | h1
    · exact h.rest i q (by omega) hir h1
    · obtain rfl : q = j := by omega
      exact hz i hir (by omega)
theorem EInv.all {r c : Nat} {M : Mx} : ∀ (k j : Nat) (xs : List Int) (pv : List Nat) (ys : List Int) (qv : List Nat), j + k = c → EInv r c M xs pv j → echC r c k j xs pv = some (ys, qv) → ∃ j', EInv r c M ys qv j' ∧ (j' = c ∨ qv.length = r) := by
  intro k
  induction k with
  | zero =>
    intro j xs pv ys qv hjk h he
    injection he with he
    injection he with e1 e2
    subst e1 e2
    obtain rfl : j = c := by omega
    exact ⟨j, h, .inl rfl⟩
  | succ k ih =>
    intro j xs pv ys qv hjk h he
    have he' : (if pv.length < r then
      if fstR c j xs (r - pv.length) pv.length = r then echC r c k (j + 1) xs pv
      else match elimR r c pv.length j r 0 (swC (fstR c j xs (r - pv.length) pv.length) pv.length c xs) with
        | none => none
        | some ys => echC r c k (j + 1) ys (pv ++ [j])
    else some (xs, pv)) = some (ys, qv) := he
    have hj : j < c := by omega
    by_cases ht : pv.length < r
    · rw [if_pos ht] at he'
      obtain ⟨f1, f2, f3, f4⟩ := fstR_says (c := c) (j := j) (xs := xs) (k := r - pv.length) (p := pv.length)
      by_cases hp : fstR c j xs (r - pv.length) pv.length = r
      · rw [if_pos hp] at he'
        refine ih (j + 1) xs pv ys qv (by omega) (h.skip hj fun i h1 h2 => f3 i h1 (by omega)) he'
      · rw [if_neg hp] at he'
        generalize fstR c j xs (r - pv.length) pv.length = p at f1 f2 f3 f4 hp he'
        have hs := h.swap f1 (show p < r by omega)
        have hy : mxC c (swC p pv.length c xs) pv.length j ≠ 0 := by
          rw [swC_at h.len ht hj]
          by_cases e : pv.length = p
          · rw [if_pos e, e]; exact f4 (by omega)
          · rw [if_neg e, if_pos rfl]; exact f4 (by omega)
        cases hel : elimR r c pv.length j r 0 (swC p pv.length c xs) with
        | none => rw [hel] at he'; cases he'
        | some zs =>
          rw [hel] at he'
          obtain ⟨h1, h2, h3⟩ := EInv.elim ht hj r 0 _ zs (by omega) hs hy (fun p hp => by omega) hel
          exact ih (j + 1) zs (pv ++ [j]) ys qv (by omega) (h1.pivot ht hj h2 h3) he'
    · rw [if_neg ht] at he'
      injection he' with he'
      injection he' with e1 e2
      subst e1 e2
      exact ⟨j, h, .inr (by have := h.le; omega)⟩
theorem EInv.ech {r c : Nat} {M : Mx} {xs : List Int} {pv : List Nat} {j : Nat} (h : EInv r c M xs pv j) (he : j = c ∨ pv.length = r) : Ech r c (mxC c xs) (fun k => pv.getD k 0) pv.length where
  le := h.le
  col := fun k hk => by have := h.col k hk; have := h.jc; omega
  inc := h.inc
  pos := fun k hk => by
    have h1 := h.col k hk
    have h2 := h.jc
    have h3 := h.le
    exact (h.norm k (by omega)).pos (by omega) (fun q hq => h.left k q hk hq) (h.ne k hk)
  only := h.only
  left := h.left
  rest := fun i q hi hir hq => by
    rcases he with e | e
    · exact h.rest i q hi hir (by omega)
    · omega
  prim := fun k hk => by
    have h1 := h.col k hk
    have h2 := h.jc
    have h3 := h.le
    exact (h.norm k (by omega)).prim (show pv.getD k 0 < c by omega) (h.ne k hk)
/-- What the elimination ends in is the echelon form of the matrix. -/
theorem echM_says {r c : Nat} {xs ys : List Int} {pv : List Nat} (hx : xs.length = r * c) (hn : nums xs = true) (h : echM r c xs = some (ys, pv)) :
    Ech r c (mxC c ys) (fun k => pv.getD k 0) pv.length ∧ SubSp r r c (mxC c ys) (mxC c xs) ∧ SubSp r r c (mxC c xs) (mxC c ys) ∧ ys.length = r * c ∧ nums ys = true ∧ ∀ i, i < r → Norm c (mxC c ys i) := by
  obtain ⟨j, h, e⟩ := EInv.all c 0 _ [] ys pv (by omega) (EInv.start hx hn) h
  exact ⟨h.ech e, h.toM, h.ofM, h.len, h.num, h.norm⟩
end Go.Proofs.Ytpelnfenfeoeeaa
end

section
/-
  Plain mathematics of chapter 12: the work towards a Hermite form, on lists, with marks for what is beyond the limit. Nothing of a program is used.
-/
namespace Go.Proofs.Ytpelnfenfeoeeaa

/-! ### Marks stay -/
def MkOr (xs : List Int) : Prop := ∀ p, xs.getD p 0 = badN ∨ NumP (xs.getD p 0)
theorem getD_out {xs : List Int} {p : Nat} (h : xs.length ≤ p) : xs.getD p 0 = 0 := by simp [List.getD, h]
theorem MkOr.of_nums {xs : List Int} (h : nums xs = true) : MkOr xs := fun p => .inr (nums_def h p)
theorem MkOr.nums {xs : List Int} (h : ∀ p, p < xs.length → NumP (xs.getD p 0)) : nums xs = true := nums_true h
theorem mulB_or (a b : Int) : mulB a b = badN ∨ NumP (mulB a b) := by
  unfold mulB
  split
  · exact .inl rfl
  · exact fitB_or _
theorem addB_or (a b : Int) : addB a b = badN ∨ NumP (addB a b) := by
  unfold addB
  split
  · exact .inl rfl
  · exact fitB_or _
theorem MkOr.op {k : Int} {I J : Nat} {z : Int} {C : Nat} {xs : List Int} (h : MkOr xs) : MkOr (opL k I J z C xs) := fun p => by
  rcases Nat.lt_or_ge p xs.length with hp | hp
  · rw [opL_getD hp]
    unfold opAt
    split
    · split
      · exact h _
      · split
        · exact h _
        · exact h _
    · split
      · split
        · exact mulB_or _ _
        · exact h _
      · split
        · exact addB_or _ _
        · exact h _
  · rw [getD_out (by rw [opL_length]; exact hp)]
    exact .inr (by decide)
theorem mulB_keeps {a b : Int} (h : NumP (mulB a b)) : a ≠ badN := fun e => by
  unfold mulB at h
  rw [if_pos (.inl e)] at h
  exact bad_not h
theorem addB_keeps {a b : Int} (h : NumP (addB a b)) : a ≠ badN := fun e => by
  unfold addB at h
  rw [if_pos (.inl e)] at h
  exact bad_not h
/-- Where all are numbers behind an operation, all were ahead of it. -/
theorem nums_back {k : Int} {I J : Nat} {z : Int} {R C : Nat} {xs : List Int} (h : MkOr xs) (hl : xs.length = R * C) (hI : I < R) (hJ : J < R) (hn : nums (opL k I J z C xs) = true) : nums xs = true := by
  have at_ : ∀ p, p < xs.length → NumP (opAt k I J z C xs p) := fun p hp => by
    have := nums_at hn (j := p) (by rw [opL_length]; exact hp)
    rwa [opL_getD hp] at this
  refine nums_true fun p hp => ?_
  have hC : 0 < C := by
    rcases Nat.eq_zero_or_pos C with e | e
    · subst e; omega
    · exact e
  have hm : p % C < C := Nat.mod_lt p hC
  have ep : p / C * C + p % C = p := Nat.div_add_mod' p C
  have h1 := at_ p hp
  unfold opAt at h1
  by_cases k0 : k = 0
  · rw [if_pos k0] at h1
    by_cases e1 : p / C = I
    · have hq : J * C + p % C < xs.length := by rw [hl]; exact idx_lt hJ hm
      have h2 := at_ _ hq
      unfold opAt at h2
      rw [if_pos k0, idx_div hm, idx_mod hm] at h2
      by_cases e2 : J = I
      · rw [if_pos e2, e2, ← e1, ep] at h2; exact h2
      · rw [if_neg e2, if_pos rfl, ← e1, ep] at h2; exact h2
    · by_cases e2 : p / C = J
      · have hq : I * C + p % C < xs.length := by rw [hl]; exact idx_lt hI hm
        have h2 := at_ _ hq
        unfold opAt at h2
        rw [if_pos k0, idx_div hm, idx_mod hm, if_pos rfl, ← e2, ep] at h2
        exact h2
      · rw [if_neg e1, if_neg e2] at h1; exact h1
  · rw [if_neg k0] at h1
    by_cases k1 : k = 1
    · rw [if_pos k1] at h1
      split at h1
      · exact (h p).resolve_left (mulB_keeps h1)
      · exact h1
    · rw [if_neg k1] at h1
      split at h1
      · exact (h p).resolve_left (addB_keeps h1)
      · exact h1
/-- Without marks it is the operation. -/
theorem opL_mx {k : Int} {I J : Nat} {z : Int} {R C : Nat} {xs : List Int} (hk : k = 0 ∨ k = 1 ∨ k = 2) (hl : xs.length = R * C) (hx : nums xs = true) (hI : I < R) (hz : NumP z) (hn : nums (opL k I J z C xs) = true) : ∀ i j, i < R → j < C → mxC C (opL k I J z C xs) i j = opX k I J z (mxC C xs) i j := fun i j hi hj => by
  show (opL k I J z C xs).getD (i * C + j) 0 = _
  rw [opL_raw hk hl hx hI hz hn _ (idx_lt hi hj), rwAt_mx hj]
  rfl

/-! ### The state: the cells and the account's cells -/
abbrev HSt := List Int × List Int
def op2 (R C : Nat) (k : Int) (I J : Nat) (z : Int) (s : HSt) : HSt := (opL k I J z C s.1, opL k I J z R s.2)
def okS (s : HSt) : Bool := nums s.1 && nums s.2
def celS (C : Nat) (s : HSt) (i j : Nat) : Int := mxC C s.1 i j
/-- What is always so. -/
structure Siz (R C : Nat) (s : HSt) : Prop where
  l1 : s.1.length = R * C
  l2 : s.2.length = R * R
  m1 : MkOr s.1
  m2 : MkOr s.2
theorem Siz.op {R C : Nat} {s : HSt} (h : Siz R C s) (k : Int) (I J : Nat) (z : Int) : Siz R C (op2 R C k I J z s) :=
  ⟨by show (opL k I J z C s.1).length = _; rw [opL_length]; exact h.l1, by show (opL k I J z R s.2).length = _; rw [opL_length]; exact h.l2, h.m1.op, h.m2.op⟩
theorem okS_and {s : HSt} (h : okS s = true) : nums s.1 = true ∧ nums s.2 = true := by
  unfold okS at h
  rwa [Bool.and_eq_true] at h
theorem okS_back {R C : Nat} {s : HSt} (h : Siz R C s) {k : Int} {I J : Nat} {z : Int} (hI : I < R) (hJ : J < R) (ho : okS (op2 R C k I J z s) = true) : okS s = true := by
  obtain ⟨a, b⟩ := okS_and ho
  unfold okS
  rw [nums_back h.m1 h.l1 hI hJ a, nums_back h.m2 h.l2 hI hJ b]; rfl
/-- The account holds, and the numbers are within the limit. -/
structure Fin2 (R C : Nat) (M : Mx) (s : HSt) : Prop where
  siz : Siz R C s
  ok : okS s = true
  acc : Acc R C (mxC R s.2) M (mxC C s.1)
theorem Fin2.op {R C : Nat} {M : Mx} {s : HSt} (h : Fin2 R C M s) {k : Int} {I J : Nat} {z : Int} (hk : k = 0 ∨ k = 1 ∨ k = 2) (hI : I < R) (hJ : J < R) (hIJ : k ≠ 1 → I ≠ J) (hz : NumP z) (ho : okS (op2 R C k I J z s) = true) :
    Fin2 R C M (op2 R C k I J z s) ∧ ∀ i j, i < R → j < C → celS C (op2 R C k I J z s) i j = opX k I J z (mxC C s.1) i j := by
  obtain ⟨a, b⟩ := okS_and ho
  obtain ⟨a0, b0⟩ := okS_and h.ok
  have e1 := opL_mx hk h.siz.l1 a0 hI hz a
  have e2 := opL_mx hk h.siz.l2 b0 hI hz b
  exact ⟨⟨h.siz.op k I J z, ho, (h.acc.op hk hI hJ hIJ).congr (fun i j hi hj => (e2 i j hi hj).symm) fun i j hi hj => (e1 i j hi hj).symm⟩, e1⟩
theorem Fin2.num {R C : Nat} {M : Mx} {s : HSt} (h : Fin2 R C M s) (i j : Nat) : NumP (celS C s i j) := nums_def (okS_and h.ok).1 _
theorem quot_left {x y : Int} (hy : y ≠ 0) : x + y * (-(x / y)) = x % y ∧ 0 ≤ x % y ∧ x % y < (y.natAbs : Int) := by
  refine ⟨?_, Int.emod_nonneg x hy, Int.emod_lt x hy⟩
  rw [Int.emod_def, Int.mul_neg]; rfl
theorem quot_num {x y : Int} (hx : NumP x) (hy : y ≠ 0) : NumP (-(x / y)) := by
  unfold NumP at *
  obtain ⟨q1, q2, q3⟩ := quot_left (x := x) hy
  have hb : ((x / y).natAbs : Int) ≤ 400000000 := by
    have := Int.natAbs_ediv_le_natAbs x y
    omega
  omega

/-! ### The row that is least in a column -/
def leastF (f : Nat → Int) (t : Nat) : Nat → Int
  | 0 => -1
  | n + 1 => if f (t + n) ≠ 0 ∧ (leastF f t n < 0 ∨ (f (t + n)).natAbs < (f (leastF f t n).toNat).natAbs) then ((t + n : Nat) : Int) else leastF f t n
theorem leastF_says (f : Nat → Int) (t : Nat) : ∀ n : Nat, (leastF f t n = -1 ∧ ∀ i, t ≤ i → i < t + n → f i = 0) ∨ ∃ p : Nat, leastF f t n = (p : Int) ∧ t ≤ p ∧ p < t + n ∧ f p ≠ 0 ∧ ∀ i, t ≤ i → i < t + n → f i ≠ 0 → (f p).natAbs ≤ (f i).natAbs
  | 0 => .inl ⟨rfl, fun i h1 h2 => by omega⟩
  | n + 1 => by
    have sp : ∀ i, t ≤ i → i < t + (n + 1) → i < t + n ∨ i = t + n := fun i _ _ => by omega
    have step : leastF f t (n + 1) = if f (t + n) ≠ 0 ∧ (leastF f t n < 0 ∨ (f (t + n)).natAbs < (f (leastF f t n).toNat).natAbs) then ((t + n : Nat) : Int) else leastF f t n := rfl
    rcases leastF_says f t n with ⟨h1, h2⟩ | ⟨p, h1, h2, h3, h4, h5⟩
    · by_cases h0 : f (t + n) = 0
      · refine .inl ⟨by rw [step, if_neg (fun h => h.1 h0), h1], fun i hi hi2 => ?_⟩
        rcases sp i hi hi2 with h | rfl
        · exact h2 i hi h
        · exact h0
      · refine .inr ⟨t + n, by rw [step, if_pos ⟨h0, .inl (by omega)⟩], by omega, by omega, h0, fun i hi hi2 hne => ?_⟩
        rcases sp i hi hi2 with h | rfl
        · exact absurd (h2 i hi h) hne
        · exact Nat.le_refl _
    · have ep : (leastF f t n).toNat = p := by omega
      rw [ep] at step
      by_cases hc : f (t + n) ≠ 0 ∧ (leastF f t n < 0 ∨ (f (t + n)).natAbs < (f p).natAbs)
      · refine .inr ⟨t + n, by rw [step, if_pos hc], by omega, by omega, hc.1, fun i hi hi2 hne => ?_⟩
        have hlt : (f (t + n)).natAbs < (f p).natAbs := by
          rcases hc.2 with h | h
          · omega
          · exact h
        rcases sp i hi hi2 with h | rfl
        · have := h5 i hi h hne; omega
        · exact Nat.le_refl _
      · refine .inr ⟨p, by rw [step, if_neg hc, h1], h2, by omega, h4, fun i hi hi2 hne => ?_⟩
        rcases sp i hi hi2 with h | rfl
        · exact h5 i hi h hne
        · exact Nat.le_of_not_lt fun hlt => hc ⟨hne, .inr hlt⟩

/-! ### One round -/
def rndF (R C p j t : Nat) (s : HSt) : Nat → HSt
  | 0 => s
  | n + 1 => if t + n ≠ p ∧ celS C (rndF R C p j t s n) (t + n) j ≠ 0 then op2 R C 2 (t + n) p (-(celS C (rndF R C p j t s n) (t + n) j / celS C (rndF R C p j t s n) p j)) (rndF R C p j t s n) else rndF R C p j t s n
theorem rndF_siz {R C p j t : Nat} {s : HSt} (h : Siz R C s) : ∀ n, Siz R C (rndF R C p j t s n)
  | 0 => h
  | n + 1 => by
    show Siz R C (if _ then _ else _)
    split
    · exact (rndF_siz h n).op _ _ _ _
    · exact rndF_siz h n
theorem rndF_back {R C p j t : Nat} {s : HSt} (h : Siz R C s) (hp : p < R) {n : Nat} (hn : t + n < R) (ho : okS (rndF R C p j t s (n + 1)) = true) : okS (rndF R C p j t s n) = true := by
  change okS (if _ then _ else _) = true at ho
  split at ho
  · exact okS_back (rndF_siz h n) hn hp ho
  · exact ho
/-- What a round does: rows behind p are reduced by row p; all else of the column, and the columns ahead, stay. -/
theorem rndF_says {R C p j t : Nat} {M : Mx} {s : HSt} {q : Nat → Nat} (hF : Fin2 R C M s) (hI : HInv R C (mxC C s.1) q t j) (hj : j < C) (hp : p < R) (htp : t ≤ p) (hpz : celS C s p j ≠ 0) : ∀ n, t + n ≤ R → okS (rndF R C p j t s n) = true →
    Fin2 R C M (rndF R C p j t s n) ∧ HInv R C (mxC C (rndF R C p j t s n).1) q t j ∧ celS C (rndF R C p j t s n) p j = celS C s p j ∧ (∀ i, i < R → t + n ≤ i → celS C (rndF R C p j t s n) i j = celS C s i j) ∧ (∀ i, t ≤ i → i < t + n → i ≠ p → 0 ≤ celS C (rndF R C p j t s n) i j ∧ celS C (rndF R C p j t s n) i j < ((celS C s p j).natAbs : Int))
  | 0, _, _ => ⟨hF, hI, rfl, fun _ _ _ => rfl, fun i h1 h2 => by omega⟩
  | n + 1, hn, ho => by
    obtain ⟨g1, g2, g3, g4, g5⟩ := rndF_says hF hI hj hp htp hpz n (by omega) (rndF_back hF.siz hp (by omega) ho)
    by_cases hc : t + n ≠ p ∧ celS C (rndF R C p j t s n) (t + n) j ≠ 0
    · have es : rndF R C p j t s (n + 1) = op2 R C 2 (t + n) p (-(celS C (rndF R C p j t s n) (t + n) j / celS C (rndF R C p j t s n) p j)) (rndF R C p j t s n) := if_pos hc
      rw [es] at ho ⊢
      have hy : celS C (rndF R C p j t s n) p j ≠ 0 := by rw [g3]; exact hpz
      obtain ⟨k1, k2⟩ := g1.op (.inr (.inr rfl)) (by omega) hp (fun _ => hc.1) (quot_num (g1.num _ _) hy) ho
      have ql := quot_left (x := celS C (rndF R C p j t s n) (t + n) j) hy
      have ce : ∀ i b, i < R → b < C → i ≠ t + n → celS C (op2 R C 2 (t + n) p (-(celS C (rndF R C p j t s n) (t + n) j / celS C (rndF R C p j t s n) p j)) (rndF R C p j t s n)) i b = celS C (rndF R C p j t s n) i b := fun i b hi hb hne => by
        rw [k2 i b hi hb]
        unfold opX
        rw [if_neg (by decide), if_neg (by decide), if_neg hne]; rfl
      have cn : celS C (op2 R C 2 (t + n) p (-(celS C (rndF R C p j t s n) (t + n) j / celS C (rndF R C p j t s n) p j)) (rndF R C p j t s n)) (t + n) j = celS C (rndF R C p j t s n) (t + n) j % celS C (rndF R C p j t s n) p j := by
        rw [k2 (t + n) j (by omega) hj, ← ql.1]
        unfold opX
        rw [if_neg (by decide), if_neg (by decide), if_pos rfl]; rfl
      refine ⟨k1, (g2.opAdd htp hp).congr fun i b hi hb => k2 i b hi (by omega), by rw [ce p j hp hj (Ne.symm hc.1)]; exact g3, fun i hi h1 => by rw [ce i j hi hj (by omega)]; exact g4 i hi (by omega), fun i h1 h2 h3 => ?_⟩
      rcases Nat.lt_or_ge i (t + n) with h4 | h4
      · rw [ce i j (by omega) hj (by omega)]; exact g5 i h1 h4 h3
      · obtain rfl : i = t + n := by omega
        rw [cn, g3]
        rw [g3] at ql
        exact ql.2
    · have es : rndF R C p j t s (n + 1) = rndF R C p j t s n := if_neg hc
      rw [es]
      refine ⟨g1, g2, g3, fun i hi h1 => g4 i hi (by omega), fun i h1 h2 h3 => ?_⟩
      rcases Nat.lt_or_ge i (t + n) with h4 | h4
      · exact g5 i h1 h4 h3
      · obtain rfl : i = t + n := by omega
        have h0 : celS C (rndF R C p j t s n) (t + n) j = 0 := Classical.byContradiction fun h => hc ⟨h3, h⟩
        rw [h0]
        exact ⟨Int.le_refl _, by omega⟩
end Go.Proofs.Ytpelnfenfeoeeaa
end
