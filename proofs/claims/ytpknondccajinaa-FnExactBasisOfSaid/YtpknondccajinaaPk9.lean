/-
  Texts of this seat, joined: StepL · LawDet · Mix · MixD · EchLw · AlI · PmI · PvR
-/
import Derived.StillTailTactics
import Derived.Test.YtpknondccajinaaPk3
import Derived.Test.YtpknondccajinaaPk4
import Derived.Test.YtpknondccajinaaPk5
import Derived.Test.YtpknondccajinaaPk8

section
/-
  Plain mathematics of chapter 6: elimination without fractions over lists of cells ends in the determinant. Nothing of a program is used.
-/
namespace Go.Proofs.Ytpknondccajinaa

/-- The first row from p on (k rows are left) whose cell in column t is not 0; n if there is none. -/
def findP (n t : Nat) (xs : List Int) : Nat → Nat → Nat
  | 0, p => p
  | k + 1, p => if xs.getD (p * n + t) 0 = 0 then findP n t xs k (p + 1) else p
theorem findP_eq {n t : Nat} {xs : List Int} {q : Nat} (h2 : q ≤ n) (hn : q < n → xs.getD (q * n + t) 0 ≠ 0) : ∀ {k p : Nat}, p + k = n → p ≤ q → (∀ r, p ≤ r → r < q → xs.getD (r * n + t) 0 = 0) → findP n t xs k p = q := by
  intro k
  induction k with
  | zero => intro p hk h1 _; show p = q; omega
  | succ k ih =>
    intro p hk h1 hz
    show (if xs.getD (p * n + t) 0 = 0 then _ else p) = q
    rcases Nat.lt_or_ge p q with h | h
    · rw [if_pos (hz p (Nat.le_refl _) h)]
      exact ih (by omega) (by omega) fun r h3 h4 => hz r (by omega) h4
    · obtain rfl : p = q := by omega
      rw [if_neg (hn (by omega))]
def pivP (n t : Nat) (xs : List Int) : Nat := findP n t xs (n - t) t
theorem pivP_eq {n t q : Nat} {xs : List Int} (ht : t ≤ q) (h2 : q ≤ n) (hz : ∀ r, t ≤ r → r < q → xs.getD (r * n + t) 0 = 0) (hn : q < n → xs.getD (q * n + t) 0 ≠ 0) : pivP n t xs = q := findP_eq h2 hn (by omega) ht hz
theorem findP_says {n t : Nat} {xs : List Int} : ∀ {k p : Nat}, p + k = n → p ≤ findP n t xs k p ∧ findP n t xs k p ≤ n ∧ (∀ r, p ≤ r → r < findP n t xs k p → xs.getD (r * n + t) 0 = 0) ∧ (findP n t xs k p < n → xs.getD (findP n t xs k p * n + t) 0 ≠ 0) := by
  intro k
  induction k with
  | zero => intro p hk; exact ⟨Nat.le_refl _, by show p ≤ n; omega, fun r h1 h2 => absurd h2 (by show ¬ r < p; omega), fun h => absurd h (by show ¬ p < n; omega)⟩
  | succ k ih =>
    intro p hk
    by_cases h : xs.getD (p * n + t) 0 = 0
    · have e : findP n t xs (k + 1) p = findP n t xs k (p + 1) := if_pos h
      rw [e]
      obtain ⟨h1, h2, h3, h4⟩ := ih (p := p + 1) (by omega)
      refine ⟨by omega, h2, fun r h5 h6 => ?_, h4⟩
      rcases Nat.lt_or_ge p r with h7 | h7
      · exact h3 r h7 h6
      · obtain rfl : r = p := by omega
        exact h
    · have e : findP n t xs (k + 1) p = p := if_neg h
      rw [e]
      exact ⟨Nat.le_refl _, by omega, fun r h1 h2 => by omega, fun _ => h⟩
theorem pivP_says {n t : Nat} {xs : List Int} (ht : t ≤ n) : t ≤ pivP n t xs ∧ pivP n t xs ≤ n ∧ (∀ r, t ≤ r → r < pivP n t xs → xs.getD (r * n + t) 0 = 0) ∧ (pivP n t xs < n → xs.getD (pivP n t xs * n + t) 0 ≠ 0) := findP_says (by omega)
/-- The pivot's row is swapped with row t. -/
def pvL (n t : Nat) (xs : List Int) : List Int := if pivP n t xs = t then xs else opL 0 (pivP n t xs) t 0 n xs
/-- What a cell becomes in the step of row t. -/
def elAt (n t : Nat) (last : Int) (xs : List Int) (i j : Nat) : Int := (xs.getD (i * n + j) 0 * xs.getD (t * n + t) 0 - xs.getD (i * n + t) 0 * xs.getD (t * n + j) 0).tdiv last
def elL (n t : Nat) (last : Int) (xs : List Int) : List Int := tab n n fun i j => if t < i ∧ t < j then elAt n t last xs i j else xs.getD (i * n + j) 0
/-- k steps from row t on: the determinant and true, or 0 and false where a cell is beyond the limit. -/
def stR2 (n : Nat) : Nat → Nat → List Int → Int → Int → Int × Bool
  | 0, _, _, last, s => (s * last, true)
  | k + 1, t, xs, last, s =>
    if pivP n t xs = n then (0, true)
    else if nums (elL n t last (pvL n t xs)) = true then stR2 n k (t + 1) (elL n t last (pvL n t xs)) ((pvL n t xs).getD (t * n + t) 0) (if pivP n t xs = t then s else -s)
    else (0, false)
theorem stR2_none {n k t : Nat} {xs : List Int} {last s : Int} (h : pivP n t xs = n) : stR2 n (k + 1) t xs last s = (0, true) := if_pos h
theorem stR2_bad {n k t : Nat} {xs : List Int} {last s : Int} (h : pivP n t xs ≠ n) (h2 : nums (elL n t last (pvL n t xs)) ≠ true) : stR2 n (k + 1) t xs last s = (0, false) := by
  show (if _ then _ else if _ then _ else _) = _
  rw [if_neg h, if_neg h2]
theorem stR2_on {n k t : Nat} {xs : List Int} {last s : Int} (h : pivP n t xs ≠ n) (h2 : nums (elL n t last (pvL n t xs)) = true) : stR2 n (k + 1) t xs last s = stR2 n k (t + 1) (elL n t last (pvL n t xs)) ((pvL n t xs).getD (t * n + t) 0) (if pivP n t xs = t then s else -s) := by
  show (if _ then _ else if _ then _ else _) = _
  rw [if_neg h, if_pos h2]
theorem opL_swap {n p t i j : Nat} {xs : List Int} (hx : xs.length = n * n) (hi : i < n) (hj : j < n) : (opL 0 p t 0 n xs).getD (i * n + j) 0 = xs.getD ((if i = p then t else if i = t then p else i) * n + j) 0 := by
  have hp : i * n + j < xs.length := by rw [hx]; exact idx_lt hi hj
  unfold opL
  simp only [List.getD, List.getElem?_map, List.getElem?_range hp, Option.map_some, Option.getD_some]
  unfold opAt
  rw [if_pos rfl, idx_div hj, idx_mod hj]
  by_cases h1 : i = p
  · rw [if_pos h1, if_pos h1]; rfl
  · rw [if_neg h1, if_neg h1]
    by_cases h2 : i = t
    · rw [if_pos h2, if_pos h2]; rfl
    · rw [if_neg h2, if_neg h2]; rfl
theorem pvL_length (n t : Nat) (xs : List Int) : (pvL n t xs).length = xs.length := by unfold pvL; split; rfl; exact opL_length _ _ _ _ _ _
theorem pvL_at {n t i j : Nat} {xs : List Int} (hx : xs.length = n * n) (hi : i < n) (hj : j < n) : (pvL n t xs).getD (i * n + j) 0 = xs.getD ((if i = t then pivP n t xs else if i = pivP n t xs then t else i) * n + j) 0 := by
  unfold pvL
  by_cases h : pivP n t xs = t
  · rw [if_pos h, h]
    by_cases h1 : i = t
    · rw [if_pos h1, h1]
    · rw [if_neg h1, if_neg h1]
  · rw [if_neg h, opL_swap hx hi hj]
    by_cases h1 : i = t
    · rw [if_pos h1, if_neg (fun e => h (by rw [← e, h1])), if_pos h1]
    · rw [if_neg h1]
      by_cases h2 : i = pivP n t xs
      · rw [if_pos h2, if_neg h1]
      · rw [if_neg h2, if_neg h1]
theorem swR_self (A : Mx) (r : Nat) : swR A r r = A := by
  funext i j
  unfold swR
  by_cases h : i = r
  · rw [if_pos h, h]
  · rw [if_neg h, if_neg h]
/-- The steps end in the determinant. -/
theorem steps_det (n : Nat) (D : Int) (k : Nat) : ∀ (t : Nat) (xs : List Int) (last s : Int) (B : Mx) (d : Int), t + k = n → xs.length = n * n →
    (∀ i j, t ≤ i → i < n → t ≤ j → j < n → xs.getD (i * n + j) 0 = bm t i j B) → last = det t B → last ≠ 0 → s * det n B = D → stR2 n k t xs last s = (d, true) → d = D := by
  induction k with
  | zero =>
    intro t xs last s B d hk _ _ hl _ hD h
    obtain rfl : t = n := by omega
    have h : s * last = d := congrArg Prod.fst h
    rw [← h, hl, hD]
  | succ k ih =>
    intro t xs last s B d hk hx hc hl hl0 hD h
    obtain ⟨p1, p2, p3, p4⟩ := pivP_says (n := n) (t := t) (xs := xs) (by omega)
    have d0 : det t B ≠ 0 := by rw [← hl]; exact hl0
    by_cases hp : pivP n t xs = n
    · rw [stR2_none hp] at h
      have hz := no_pivot (n := n) B (by omega) d0 fun i h1 h2 => by rw [← hc i t h1 h2 (Nat.le_refl _) (by omega)]; exact p3 i h1 (by omega)
      have h : (0 : Int) = d := congrArg Prod.fst h
      rw [← h, ← hD, hz, Int.mul_zero]
    · by_cases hn : nums (elL n t last (pvL n t xs)) = true
      · rw [stR2_on hp hn] at h
        have hpn : pivP n t xs < n := by omega
        have hb := p4 hpn
        obtain ⟨p, hpe⟩ : ∃ p, pivP n t xs = p := ⟨_, rfl⟩
        have hy : ∀ i j, t ≤ i → i < n → t ≤ j → j < n → (pvL n t xs).getD (i * n + j) 0 = bm t i j (swR B t p) := fun i j h1 h2 h3 h4 => by
          rw [pvL_at hx h2 h4, hpe, bm_swap B (by omega)]
          rw [hpe] at p1 hpn
          by_cases e1 : i = t
          · rw [if_pos e1]; exact hc p j p1 hpn h3 h4
          · rw [if_neg e1]
            by_cases e2 : i = p
            · rw [if_pos e2]; exact hc t j (Nat.le_refl _) (by omega) h3 h4
            · rw [if_neg e2]; exact hc i j h1 h2 h3 h4
        have hd : det t (swR B t p) = det t B := det_swap_low B (by omega)
        have ht : t < n := by omega
        have htt := hy t t (Nat.le_refl _) ht (Nat.le_refl _) ht
        refine ih (t + 1) _ _ _ (swR B t p) d (by omega) (tab_length _ _ _) (fun i j h1 h2 h3 h4 => ?_) ?_ ?_ ?_ h
        · show (tab n n fun i j => if t < i ∧ t < j then elAt n t last (pvL n t xs) i j else (pvL n t xs).getD (i * n + j) 0).getD (i * n + j) 0 = _
          rw [tab_at n n _ h2 h4, if_pos ⟨h1, h3⟩]
          unfold elAt
          rw [hy i j (by omega) h2 (by omega) h4, htt, hy i t (by omega) h2 (Nat.le_refl _) ht, hy t j (Nat.le_refl _) ht (by omega) h4, hl, ← hd]
          have sy := sylvester t i j (swR B t p) (by rw [hd]; exact d0)
          rw [Int.mul_comm (bm t i j _), ← sy]
          exact Int.mul_tdiv_cancel_left _ (by rw [hd]; exact d0)
        · rw [htt, bm_diag]
        · rw [pvL_at hx ht ht, if_pos rfl]; exact hb
        · rw [hpe]
          by_cases e : p = t
          · rw [if_pos e, e, swR_self]; exact hD
          · rw [if_neg e, alt_swap (det_lin n) (det_alt n) (fun h => e h.symm) ht (by omega) B, Int.mul_neg, Int.neg_mul, Int.neg_neg]; exact hD
      · rw [stR2_bad hp hn] at h
        exact absurd (congrArg Prod.snd h) (by simp)
/-- What DeterminantBySteps answers, for a square matrix. -/
def stepsM (n : Nat) (xs : List Int) : Int × Bool := stR2 n n 0 xs 1 1
theorem stepsM_det {n : Nat} {xs : List Int} {d : Int} (hx : xs.length = n * n) (h : stepsM n xs = (d, true)) : d = det n (mxL n xs) :=
  steps_det n _ n 0 xs 1 1 (mxL n xs) d (by omega) hx (fun i j _ _ _ _ => (bm_zero i j (mxL n xs)).symm) rfl (by decide) (Int.one_mul _) h
end Go.Proofs.Ytpknondccajinaa
end

section
/-
  Plain mathematics of chapter 6: what the laws say. Nothing of a program is used.
-/
namespace Go.Proofs.Ytpknondccajinaa

theorem detOf_says {r c d : Int} {xs : List Int} (h1 : (detOf r c xs).1 = d) (h2 : (detOf r c xs).2 = true) : ∃ n : Nat, r = n ∧ c = n ∧ n ≤ 6 ∧ xs.length = n * n ∧ nums xs = true ∧ detB n xs = d ∧ NumP d ∧ d = det n (mxL n xs) := by
  have hn := detOf_num r c xs
  rw [h1] at hn
  unfold detOf at h1 h2
  by_cases hs : isSq r c xs = true
  · rw [if_pos hs] at h1 h2
    obtain ⟨n, rfl, rfl, h6, hl, nx⟩ := isSq_says hs
    have e : (n : Int).toNat = n := rfl
    rw [e] at h1 h2
    unfold detM at h1 h2
    by_cases hb : detB n xs = badN
    · rw [if_pos hb] at h2; exact absurd h2 (by decide)
    · rw [if_neg hb] at h1
      have h1 : detB n xs = d := h1
      exact ⟨n, rfl, rfl, h6, hl, nx, h1, hn, by rw [← h1]; exact detB_det n xs hb⟩
  · rw [if_neg hs] at h2; exact absurd h2 (by decide)
theorem mulM_says {r c r' c' : Int} {xs ys : List Int} (h : (mulM r c xs r' c' ys).ok = true) : ∃ R K C : Nat, r = R ∧ c = K ∧ r' = K ∧ c' = C ∧ isMat r c xs = true ∧ isMat r' c' ys = true ∧ mulM r c xs r' c' ys = ⟨true, r, c', mulL R K C xs ys⟩ := by
  unfold mulM at h ⊢
  by_cases h1 : (isMat r c xs && isMat r' c' ys && decide (c = r')) = true
  · rw [if_pos h1] at h ⊢
    simp only [Bool.and_eq_true, decide_eq_true_eq] at h1
    obtain ⟨⟨hm, hm'⟩, rfl⟩ := h1
    obtain ⟨⟨r1, -⟩, ⟨c1, -⟩, -, -⟩ := isMat_says hm
    obtain ⟨-, ⟨c2, -⟩, -, -⟩ := isMat_says hm'
    obtain ⟨R, rfl⟩ := Int.eq_ofNat_of_zero_le r1
    obtain ⟨K, rfl⟩ := Int.eq_ofNat_of_zero_le c1
    obtain ⟨C, rfl⟩ := Int.eq_ofNat_of_zero_le c2
    unfold MR.done at h ⊢
    by_cases h2 : isMat R C (mulL R K C xs ys) = true
    · exact ⟨R, K, C, rfl, rfl, rfl, rfl, hm, hm', if_pos h2⟩
    · rw [show (if isMat R C (mulL (R : Int).toNat (K : Int).toNat (C : Int).toNat xs ys) = true then _ else MR.no) = MR.no from if_neg h2] at h
      exact absurd h (by simp [MR.no])
  · rw [if_neg h1] at h; exact absurd h (by simp [MR.no])
theorem mxL_mul (n : Nat) (xs ys : List Int) : EqX n (mxL n (mulL n n n xs ys)) (mulX n (mxL n xs) (mxL n ys)) := fun r c hr hc => by
  show (mulL n n n xs ys).getD (r * n + c) 0 = sumN n fun k => mxL n xs r k * mxL n ys k c
  unfold mulL
  rw [tab_at n n _ hr hc, dot_sum]
  rfl
/-- The determinant of a product. -/
theorem prod_det {r c r' c' dx dy dz : Int} {xs ys : List Int} {m : MR} (hm : mulM r c xs r' c' ys = m) (ho : m.ok = true) (a1 : (detOf r c xs).1 = dx) (a2 : (detOf r c xs).2 = true) (b1 : (detOf r' c' ys).1 = dy) (b2 : (detOf r' c' ys).2 = true)
    (c1 : (detOf m.r m.c m.zs).1 = dz) (c2 : (detOf m.r m.c m.zs).2 = true) : dx * dy = dz ∧ NumP dx ∧ NumP dy := by
  obtain ⟨n, rfl, rfl, -, -, -, -, na, ea⟩ := detOf_says a1 a2
  obtain ⟨k, rfl, rfl, -, -, -, -, nb, eb⟩ := detOf_says b1 b2
  obtain ⟨R, K, C, e1, e2, e3, e4, -, -, e⟩ := mulM_says (by rw [hm]; exact ho)
  obtain rfl : n = R := by omega
  obtain rfl : n = K := by omega
  obtain rfl : k = n := by omega
  obtain rfl : k = C := by omega
  rw [hm] at e
  subst e
  obtain ⟨p, p1, -, -, -, -, -, -, ec⟩ := detOf_says c1 c2
  have p1 : (k : Int) = (p : Int) := p1
  obtain rfl : k = p := by omega
  refine ⟨?_, na, nb⟩
  rw [ea, eb, ec]
  show _ = det k (mxL k (mulL k k k xs ys))
  rw [det_congr (mxL_mul k xs ys), det_mul]
/-- A matrix turned over. -/
theorem turn_det {r c dx dz : Int} {xs : List Int} (a1 : (detOf r c xs).1 = dx) (a2 : (detOf r c xs).2 = true) (c1 : (detOf (turnM r c xs).r (turnM r c xs).c (turnM r c xs).zs).1 = dz) (c2 : (detOf (turnM r c xs).r (turnM r c xs).c (turnM r c xs).zs).2 = true) : dx = dz := by
  obtain ⟨n, rfl, rfl, -, hl, -, -, na, ea⟩ := detOf_says a1 a2
  obtain ⟨p, p1, p2, -, hl2, -, -, nc, ec⟩ := detOf_says c1 c2
  unfold turnM at p1 ec
  by_cases hm : isMat n n xs = true
  · rw [if_pos hm] at p1 ec
    have p1 : (n : Int) = (p : Int) := p1
    obtain rfl : n = p := by omega
    rw [ea, ec]
    show det n (mxL n xs) = det n (mxL n (turnL n n xs))
    rw [← det_tr n (mxL n xs)]
    refine det_congr fun r c hr hc => ?_
    show xs.getD (c * n + r) 0 = (turnL n n xs).getD (r * n + c) 0
    exact (turnL_at n n xs hc hr).symm
  · exfalso
    unfold detOf isSq at a2
    rw [show isMat n n xs = false by simpa using hm] at a2
    simp at a2
theorem steps_says {r c d : Int} {xs : List Int} (h1 : (detOf r c xs).1 = d) (h2 : (detOf r c xs).2 = true) {e : Int} (hs : (if isSq r c xs = true then stepsM r.toNat xs else (0, false)) = (e, true)) : d = e := by
  obtain ⟨n, rfl, rfl, -, hl, -, -, -, ed⟩ := detOf_says h1 h2
  by_cases hq : isSq n n xs = true
  · rw [if_pos hq] at hs
    rw [ed]
    exact (stepsM_det hl hs).symm
  · rw [if_neg hq] at hs; exact absurd (congrArg Prod.snd hs) (by simp)
end Go.Proofs.Ytpknondccajinaa
end

section
/-
  The laws' unit and mix: some matrix is returned; nothing that was there changes.
-/
namespace Go.Proofs.Ytpknondccajinaa
set_option maxRecDepth 100000
open Go.RowKit

/-- A matrix, whatever it is, that has cells or no rows. -/
def SomeMat (w : World) (e : Ending) (w' : World) : Prop := ∃ (r c : Int) (q : Option Addr) (qc : Nat) (zs : List Int), e = .returned (.agg #[.int .i64 r, .int .i64 c, .slice q zs.length qc]) ∧ Own w.heap.size w' (.slice q zs.length qc) zs ∧ (0 < zs.length ∨ r = 0) ∧ zs.length ≤ 600 ∧ Below w.heap.size w w'
theorem Own.addr {B : Nat} {w : World} {q : Option Addr} {n qc : Nat} {zs : List Int} (h : Own B w (.slice q n qc) zs) (hz : 0 < zs.length) : ∃ g o : Nat, q = some ⟨g, o, none⟩ := by
  rcases h with ⟨_, h⟩ | ⟨g, cap, hv, -⟩
  · rw [h] at hz; simp at hz
  · injection hv with h1; exact ⟨g, 0, h1⟩
theorem Own.rd2 {B : Nat} {w : World} {q : Option Addr} {n qc : Nat} {zs : List Int} (h : Own B w (.slice q n qc) zs) : Rd w q zs := by
  obtain ⟨a', c', e, hr, -⟩ := h.form
  injection e with e1 e2 e3
  rw [e1]; exact hr
theorem Own.old2 {B : Nat} {w : World} {v : Value} {zs : List Int} (h : Own B w v zs) (o : Obj) : Own B (w.alloc o) v zs := h.keep ((Below.refl _ _).alloc (Nat.le_refl _) o)
theorem idM_some (n : Int) : (0 < (idM n).zs.length ∨ (idM n).r = 0) ∧ (idM n).zs.length ≤ 600 := by
  unfold idM
  by_cases h : 0 ≤ n ∧ n ≤ 24
  · rw [if_pos h]
    obtain ⟨k, rfl⟩ := Int.eq_ofNat_of_zero_le h.1
    have hk : k ≤ 24 := by omega
    have : k * k ≤ 24 * 24 := Nat.mul_le_mul hk hk
    refine ⟨?_, ?_⟩
    · rcases Nat.eq_zero_or_pos k with e | e
      · right; simp [e]
      · left
        show 0 < (idL k k).length
        rw [idL_length]; exact Nat.mul_pos e e
    · show (idL k k).length ≤ 600
      rw [idL_length]; omega
  · rw [if_neg h]
    exact ⟨.inr rfl, by simp [MR.no]⟩
theorem opM_some (k i j t r c : Int) (xs : List Int) (h : 0 < xs.length ∨ r = 0) (hl : xs.length ≤ 600) : (0 < (opM k i j t r c xs).zs.length ∨ (opM k i j t r c xs).r = 0) ∧ (opM k i j t r c xs).zs.length ≤ 600 := by
  unfold opM MR.done
  split
  · rename_i h1
    simp only [Bool.and_eq_true] at h1
    have h2 := isOp_says h1.2
    split
    · refine ⟨?_, ?_⟩
      · left
        show 0 < (opL k i.toNat j.toNat t c.toNat xs).length
        rw [opL_length]
        rcases h with h | h
        · exact h
        · omega
      · show (opL k i.toNat j.toNat t c.toNat xs).length ≤ 600
        rw [opL_length]; exact hl
    · exact ⟨.inr rfl, by simp [MR.no]⟩
  · exact ⟨.inr rfl, by simp [MR.no]⟩
theorem Own.spot2 {B n c : Nat} {w : World} {a : Option Addr} {zs : List Int} (h : Own B w (.slice a n c) zs) : Spot a := by
  rcases h with ⟨hv, -⟩ | ⟨g, cap, hv, -⟩
  · simp only [Value.slice.injEq] at hv
    exact .inl hv.1
  · simp only [Value.slice.injEq] at hv
    exact .inr ⟨_, _, hv.1⟩
theorem sOpSome (k i j t r c : Int) (a : Option Addr) (m : Nat) (xs : List Int) (w : World) (h : Rd w a xs) (hn : xs.length ≤ 600) (hz : 0 < xs.length ∨ r = 0) (ha : Spot a) :
    Calls Try.prog 50 #[.agg #[.int .i64 r, .int .i64 c, .slice a xs.length m], .agg #[.int .i64 k, .int .i64 i, .int .i64 j, .int .i64 t]] w (fun e w' => ∃ (r' c' : Int) (q' : Option Addr) (qc' : Nat) (zs' : List Int) (ok : Bool), e = .returned (.tuple #[.agg #[.int .i64 r', .int .i64 c', .slice q' zs'.length qc'], .bool ok]) ∧ Own w.heap.size w' (.slice q' zs'.length qc') zs' ∧ ((0 < zs'.length ∨ r' = 0) ∧ zs'.length ≤ 600) ∧ Below w.heap.size w w') := by
  refine (sOp k i j t r c a m xs w h (by omega) ha).mono ?_
  rintro e w' ⟨v, rfl, own, hb⟩
  have hs := opM_some k i j t r c xs hz hn
  obtain ⟨q, qc, rfl, -, -⟩ := own.form
  exact ⟨_, _, q, qc, _, _, rfl, own, hs, hb⟩
theorem fourF {W w' : World} {b : Nat} {t : TypeId} {p q r v : Value} {x : Addr} (h0 : Blk3 W b t p q r) (hx : W.cell? x = some v) (hb : Below W.heap.size W w') :
    w'.cell? ⟨b, 0, none⟩ = some p ∧ w'.cell? ⟨b, 1, none⟩ = some q ∧ w'.cell? ⟨b, 2, none⟩ = some r ∧ w'.cell? x = some v :=
  ⟨(h0.keep hb h0.lt).cell0, (h0.keep hb h0.lt).cell1, (h0.keep hb h0.lt).cell2, (hb.cell (World.block_lt_of_cell? W _ hx)).trans hx⟩
theorem In.own {B T : Nat} {w : World} {v : Value} {zs : List Int} (h : In B T w v zs) : Own B w v zs := by
  rcases h with h | ⟨g, cap, hv, hB, -, hi, hl, hk⟩
  · exact .inl h
  · exact .inr ⟨g, cap, hv, hB, hi, hl, hk⟩
theorem Own.far2 {B : Nat} {w : World} {v : Value} {zs : List Int} (h : Own B w v zs) {a : Addr} (ha : a.block < B) (u : Value) : Own B (w.setCell a u) v zs := by
  rcases h with h | ⟨g, cap, hv, hB, hi, hl, hk⟩
  · exact .inl h
  · exact .inr ⟨g, cap, hv, hB, hi.far (by omega) u, hl, hk⟩
theorem lUnit (n : Int) (w : World) : Calls Try.prog 49 #[.int .i64 n] w (SomeMat w) := by
  obtain ⟨mr, hmr⟩ : ∃ mr, idM n = mr := ⟨_, rfl⟩
  have hs := idM_some n
  rw [hmr] at hs
  have MRH := Lib.hid hmr
  have HS := Lib.hid hs
  clear hmr hs
  go_enter Try.func49, Try.ntmps49
  go_wp2_with fail
  refine (sIdent n _).mono ?_
  rintro e w1 ⟨v, rfl, own, hb⟩
  rw [MRH.out] at own ⊢
  obtain ⟨q, qc, rfl, -, -⟩ := own.form
  have K2 : Hid (Blk3 w1 w.heap.size 26 (.int .i64 0) (.int .i64 0) (.slice none 0 0)) := (Blk3.at_ _ _ _ _ rfl).keep hb (by simp)
  have B : Hid (Below w.heap.size w w1) := ((Below.refl _ _).alloc (Nat.le_refl _) _).trans (hb.mono (by simp))
  have O := Lib.hid (own.le (show w.heap.size ≤ _ by simp))
  have OI : Hid (∀ x y z, Own w.heap.size ((((w1.alloc (.cells #[.int .i64 mr.r, .int .i64 mr.c, .slice q mr.zs.length qc] 26)).setCell ⟨w.heap.size, 0, none⟩ x).setCell ⟨w.heap.size, 1, none⟩ y).setCell ⟨w.heap.size, 2, none⟩ z) (.slice q mr.zs.length qc) mr.zs) := fun x y z => by
    rcases (own.old2 (.cells #[.int .i64 mr.r, .int .i64 mr.c, .slice q mr.zs.length qc] 26)) with h | ⟨g, cap, hv, hB, hi, hl, hc⟩
    · exact .inl h
    · have hB : w.heap.size + 1 ≤ g := by simpa using hB
      exact .inr ⟨g, cap, hv, by omega, ((hi.far (by show g ≠ w.heap.size; omega) _).far (by show g ≠ w.heap.size; omega) _).far (by show g ≠ w.heap.size; omega) _, hl, hc⟩
  clear own hb
  have K2 := Lib.hid (K2.out.old (.cells #[.int .i64 mr.r, .int .i64 mr.c, .slice q mr.zs.length qc] 26))
  obtain ⟨s0, s1, s2, f0, f1, f2⟩ := K2.out.all
  go_wp2_with fail
  obtain ⟨E0, E1, E2, -, -, -⟩ := (K2.out.set3 (.int .i64 mr.r) (.int .i64 mr.c) (.slice q mr.zs.length qc)).all
  refine bodyPost_ret (v := .agg #[.int .i64 mr.r, .int .i64 mr.c, .slice q mr.zs.length qc]) (by simp [results, Try.results49, go_sem, E0, E1, E2]) rfl ⟨_, _, q, qc, mr.zs, rfl, OI.out _ _ _, HS.out.1, HS.out.2, ?_⟩
  exact ((((B.out.alloc B.out.size _).setCell (Nat.le_refl _) _).setCell (Nat.le_refl _) _).setCell (Nat.le_refl _) _)

set_option maxRecDepth 100000 in
set_option maxHeartbeats 4000000 in
theorem lMix (n : Int) (a : Option Addr) (len cap : Nat) (w : World) (hc : CodeIn w a len) (hn0 : 0 ≤ n) (hn6 : n ≤ 6) : Calls Try.prog 14 #[.slice a len cap, .int .i64 n] w (SomeMat w) := by
  have HC := Lib.hid hc
  have hl := hc.1
  clear hc
  unfold maxLen at hl
  go_enter Try.func14, Try.ntmps14
  go_wp2_with fail
  refine (lUnit n _).mono ?_
  rintro e w1 ⟨rA, cA, qA, qcA, zA, rfl, own, hz, hlz, hb⟩
  have K2 : Hid (Blk3 (w1.alloc (.cells #[.int .i64 rA, .int .i64 cA, .slice qA zA.length qcA] 26)) w.heap.size 26 (.int .i64 0) (.int .i64 0) (.slice none 0 0)) := ((Blk3.at_ _ _ _ _ rfl).keep hb (by simp)).old _
  have B : Hid (Below w.heap.size w (w1.alloc (.cells #[.int .i64 rA, .int .i64 cA, .slice qA zA.length qcA] 26))) := (((Below.refl _ _).alloc (Nat.le_refl _) _).trans (hb.mono (by simp))).alloc (by have := hb.size; simp at this; omega) _
  have K5 : Hid (Blk3 (w1.alloc (.cells #[.int .i64 rA, .int .i64 cA, .slice qA zA.length qcA] 26)) w1.heap.size 26 (.int .i64 rA) (.int .i64 cA) (.slice qA zA.length qcA)) := Blk3.at_ _ _ _ _ rfl
  have O := Lib.hid ((own.le (show w.heap.size + 1 ≤ _ by simp)).old2 (.cells #[.int .i64 rA, .int .i64 cA, .slice qA zA.length qcA] 26))
  have lw : w.heap.size < w1.heap.size := by have := hb.size; simp at this; omega
  have HZ := Lib.hid hz
  have HLZ := Lib.hid hlz
  clear own hb hz hlz
  go_wp2_with fail
  go_loopw [6, 7, 8, 9] (fun i _ _ _ wr => ∃ (j : Nat) (r c : Int) (q : Option Addr) (qc : Nat) (zs : List Int), i = .int .i64 j ∧ j ≤ 6 ∧ Blk3 wr w.heap.size 26 (.int .i64 0) (.int .i64 0) (.slice none 0 0) ∧ Blk3 wr w1.heap.size 26 (.int .i64 r) (.int .i64 c) (.slice q zs.length qc) ∧ Own (w.heap.size + 1) wr (.slice q zs.length qc) zs ∧ (0 < zs.length ∨ r = 0) ∧ zs.length ≤ 600 ∧ Below w.heap.size w wr) (fun i _ _ _ _ => 6 - (intOf i).toNat)
  case atStart => exact ⟨0, rA, cA, qA, qcA, zA, rfl, by omega, K2.out, K5.out, O.out, HZ.out, HLZ.out, B.out⟩
  case round =>
    clear K2 K5 O HZ HLZ B
    obtain ⟨j, r, c, q, qc, zs, rfl, hj, hk2, hk5, ho, hz, hlz, hb⟩ := hrel
    have K2 := Lib.hid hk2
    have K5 := Lib.hid hk5
    have O := Lib.hid ho
    have HZ := Lib.hid hz
    have HLZ := Lib.hid hlz
    have B := Lib.hid hb
    have l2 := hk2.lt
    have l5 := hk5.lt
    clear hk2 hk5 ho hz hlz hb
    obtain ⟨x0, x1, x2, x3, x4, x5⟩ := K5.out.all
    obtain ⟨s0, s1, s2, f0, f1, f2⟩ := K2.out.all
    have ending : ∀ y0 y1 y2, y0 = Value.int .i64 r → y1 = Value.int .i64 c → y2 = Value.slice q zs.length qc → SomeMat w (.returned (.agg #[y0, y1, y2])) (((wr.setCell ⟨w.heap.size, 0, none⟩ (.int .i64 r)).setCell ⟨w.heap.size, 1, none⟩ (.int .i64 c)).setCell ⟨w.heap.size, 2, none⟩ (.slice q zs.length qc)) := by
      rintro _ _ _ rfl rfl rfl
      refine ⟨r, c, q, qc, zs, rfl, ?_, HZ.out, HLZ.out, ((B.out.setCell (Nat.le_refl _) _).setCell (Nat.le_refl _) _).setCell (Nat.le_refl _) _⟩
      rcases O.out with h | ⟨g, cap, hv, hB, hi, hl, hc⟩
      · exact .inl h
      · exact .inr ⟨g, cap, hv, by omega, ((hi.far (by show g ≠ w.heap.size; omega) _).far (by show g ≠ w.heap.size; omega) _).far (by show g ≠ w.heap.size; omega) _, hl, hc⟩
    have EN := Lib.hid ending
    clear ending
    obtain ⟨E0, E1, E2, -, -, -⟩ := (K2.out.set3 (.int .i64 r) (.int .i64 c) (.slice q zs.length qc)).all
    have EE0 := Lib.hid E0
    have EE1 := Lib.hid E1
    have EE2 := Lib.hid E2
    clear E0 E1 E2
    by_cases h1 : j < len
    · by_cases h2 : j < 6
      · by_cases h3 : 1 < n
        · obtain ⟨b, o, z, ha, hx, z0, z1⟩ := (HC.out.below B.out).2 j h1
          subst ha
          have g1 : (j : Int) < 6 := by omega
          have g2 : ¬ n = 0 := by omega
          have g3 : (n == 0) = false := by simpa using g2
          have g4 : IntKind.i64.wrap (n - 1) = n - 1 := IntWalk.i64_in _ (by omega)
          have g5 : ¬ n - 1 = 0 := by omega
          have g6 : (n - 1 == 0) = false := by simpa using g5
          go_wp2_with fail
          refine wp_region_held_drew (S := fun w' => Below wr.heap.size wr w') (by kernel_rfl) (Below.refl _ _).drew (fun hH => ?_)
          refine wpAnyH_take (i := 0) (v := ?_) (by simp only [List.getElem?_toArray, List.getElem?_cons_zero]; rfl) (by kernel_rfl) (by kernel_rfl) (by kernel_rfl) (by exact fun _ _ _ h => h) (Or.inl ⟨by rfl, ?_⟩) hH ?_
          rotate_left
          · (intro wS hS; (try dsimp only at hS); obtain ⟨k1, k2, k3, k4⟩ := fourF K5.out hx hS; go_simp; try rfl)
          try simp only [Act.put, List.setIfInBounds_toArray, List.set_cons_zero, List.set_cons_succ]
          refine wpAnyH_take (i := 1) (v := ?_) (by simp only [List.getElem?_toArray, List.getElem?_cons_succ, List.getElem?_cons_zero]; rfl) (by kernel_rfl) (by kernel_rfl) (by kernel_rfl) (by exact fun _ _ _ h => h) (Or.inl ⟨by rfl, ?_⟩) hH ?_
          rotate_left
          · (intro wS hS; (try dsimp only at hS); obtain ⟨k1, k2, k3, k4⟩ := fourF K5.out hx hS; go_simp; try rfl)
          try simp only [Act.put, List.setIfInBounds_toArray, List.set_cons_zero, List.set_cons_succ]
          refine wpAnyH_take (i := 2) (v := ?_) (by simp only [List.getElem?_toArray, List.getElem?_cons_succ, List.getElem?_cons_zero]; rfl) (by kernel_rfl) (by kernel_rfl) (by kernel_rfl) (by exact fun _ _ _ h => h) (Or.inl ⟨by rfl, ?_⟩) hH ?_
          rotate_left
          · (intro wS hS; (try dsimp only at hS); obtain ⟨k1, k2, k3, k4⟩ := fourF K5.out hx hS; go_simp; try rfl)
          try simp only [Act.put, List.setIfInBounds_toArray, List.set_cons_zero, List.set_cons_succ]
          refine wpAnyH_take (i := 3) (v := ?_) (by simp only [List.getElem?_toArray, List.getElem?_cons_succ, List.getElem?_cons_zero]; rfl) (by kernel_rfl) (by kernel_rfl) (by kernel_rfl) (by exact fun _ _ _ h => h) (Or.inl ⟨by rfl, ?_⟩) hH ?_
          rotate_left
          · (intro wS hS; (try dsimp only at hS); obtain ⟨k1, k2, k3, k4⟩ := fourF K5.out hx hS; go_simp; try rfl)
          try simp only [Act.put, List.setIfInBounds_toArray, List.set_cons_zero, List.set_cons_succ]
          refine wpAnyH_take (i := 4) (v := ?_) (by simp only [List.getElem?_toArray, List.getElem?_cons_succ, List.getElem?_cons_zero]; rfl) (by kernel_rfl) (by kernel_rfl) (by kernel_rfl) (by exact fun _ _ _ h => h) (Or.inl ⟨by rfl, ?_⟩) hH ?_
          rotate_left
          · (intro wS hS; (try dsimp only at hS); obtain ⟨k1, k2, k3, k4⟩ := fourF K5.out hx hS; go_simp; try rfl)
          try simp only [Act.put, List.setIfInBounds_toArray, List.set_cons_zero, List.set_cons_succ]
          refine wpAnyH_take (i := 5) (v := ?_) (by simp only [List.getElem?_toArray, List.getElem?_cons_succ, List.getElem?_cons_zero]; rfl) (by kernel_rfl) (by kernel_rfl) (by kernel_rfl) (by exact fun _ _ _ h => h) (Or.inl ⟨by rfl, ?_⟩) hH ?_
          rotate_left
          · (intro wS hS; (try dsimp only at hS); obtain ⟨k1, k2, k3, k4⟩ := fourF K5.out hx hS; go_simp; try rfl)
          try simp only [Act.put, List.setIfInBounds_toArray, List.set_cons_zero, List.set_cons_succ]
          refine wpAnyH_take (i := 6) (v := ?_) (by simp only [List.getElem?_toArray, List.getElem?_cons_succ, List.getElem?_cons_zero]; rfl) (by kernel_rfl) (by kernel_rfl) (by kernel_rfl) (by exact fun _ _ _ h => h) (Or.inl ⟨by rfl, ?_⟩) hH ?_
          rotate_left
          · (intro wS hS; (try dsimp only at hS); obtain ⟨k1, k2, k3, k4⟩ := fourF K5.out hx hS; go_simp; try rfl)
          try simp only [Act.put, List.setIfInBounds_toArray, List.set_cons_zero, List.set_cons_succ]
          refine wpAnyH_take (i := 7) (v := ?_) (by simp only [List.getElem?_toArray, List.getElem?_cons_succ, List.getElem?_cons_zero]; rfl) (by kernel_rfl) (by kernel_rfl) (by kernel_rfl) (by exact fun _ _ _ h => h) (Or.inl ⟨by rfl, ?_⟩) hH ?_
          rotate_left
          · (intro wS hS; (try dsimp only at hS); obtain ⟨k1, k2, k3, k4⟩ := fourF K5.out hx hS; go_simp; try rfl)
          try simp only [Act.put, List.setIfInBounds_toArray, List.set_cons_zero, List.set_cons_succ]
          refine wpAnyH_take (i := 8) (v := ?_) (by simp only [List.getElem?_toArray, List.getElem?_cons_succ, List.getElem?_cons_zero]; rfl) (by kernel_rfl) (by kernel_rfl) (by kernel_rfl) (by exact fun _ _ _ h => h) (Or.inl ⟨by rfl, ?_⟩) hH ?_
          rotate_left
          · (intro wS hS; (try dsimp only at hS); obtain ⟨k1, k2, k3, k4⟩ := fourF K5.out hx hS; go_simp; try rfl)
          try simp only [Act.put, List.setIfInBounds_toArray, List.set_cons_zero, List.set_cons_succ]
          refine wpAnyH_take (i := 9) (v := ?_) (by simp only [List.getElem?_toArray, List.getElem?_cons_succ, List.getElem?_cons_zero]; rfl) (by kernel_rfl) (by kernel_rfl) (by kernel_rfl) (by exact fun _ _ _ h => h) (Or.inl ⟨by rfl, ?_⟩) hH ?_
          rotate_left
          · (intro wS hS; (try dsimp only at hS); obtain ⟨k1, k2, k3, k4⟩ := fourF K5.out hx hS; go_simp; try rfl)
          try simp only [Act.put, List.setIfInBounds_toArray, List.set_cons_zero, List.set_cons_succ]
          refine wpAnyH_take (i := 10) (v := ?_) (by simp only [List.getElem?_toArray, List.getElem?_cons_succ, List.getElem?_cons_zero]; rfl) (by kernel_rfl) (by kernel_rfl) (by kernel_rfl) (by exact fun _ _ _ h => h) (Or.inl ⟨by rfl, ?_⟩) hH ?_
          rotate_left
          · (intro wS hS; (try dsimp only at hS); obtain ⟨k1, k2, k3, k4⟩ := fourF K5.out hx hS; go_simp; try rfl)
          try simp only [Act.put, List.setIfInBounds_toArray, List.set_cons_zero, List.set_cons_succ]
          refine wpAnyH_take (i := 11) (v := ?_) (by simp only [List.getElem?_toArray, List.getElem?_cons_succ, List.getElem?_cons_zero]; rfl) (by kernel_rfl) (by kernel_rfl) (by kernel_rfl) (by exact fun _ _ _ h => h) (Or.inl ⟨by rfl, ?_⟩) hH ?_
          rotate_left
          · (intro wS hS; (try dsimp only at hS); obtain ⟨k1, k2, k3, k4⟩ := fourF K5.out hx hS; go_simp; try rfl)
          try simp only [Act.put, List.setIfInBounds_toArray, List.set_cons_zero, List.set_cons_succ]
          refine wpAnyH_take (i := 12) (v := ?_) (by simp only [List.getElem?_toArray, List.getElem?_cons_succ, List.getElem?_cons_zero]; rfl) (by kernel_rfl) (by kernel_rfl) (by kernel_rfl) (by exact fun _ _ _ h => h) (Or.inl ⟨by rfl, ?_⟩) hH ?_
          rotate_left
          · (intro wS hS; (try dsimp only at hS); obtain ⟨k1, k2, k3, k4⟩ := fourF K5.out hx hS; go_simp; try rfl)
          try simp only [Act.put, List.setIfInBounds_toArray, List.set_cons_zero, List.set_cons_succ]
          refine wpAnyH_take (i := 13) (v := ?_) (by simp only [List.getElem?_toArray, List.getElem?_cons_succ, List.getElem?_cons_zero]; rfl) (by kernel_rfl) (by kernel_rfl) (by kernel_rfl) (by exact fun _ _ _ h => h) (Or.inl ⟨by rfl, ?_⟩) hH ?_
          rotate_left
          · (intro wS hS; (try dsimp only at hS); obtain ⟨k1, k2, k3, k4⟩ := fourF K5.out hx hS; go_simp; try rfl)
          try simp only [Act.put, List.setIfInBounds_toArray, List.set_cons_zero, List.set_cons_succ]
          refine wpAnyH_take (i := 14) (v := ?_) (by simp only [List.getElem?_toArray, List.getElem?_cons_succ, List.getElem?_cons_zero]; rfl) (by kernel_rfl) (by kernel_rfl) (by kernel_rfl) (by exact fun _ _ _ h => h) (Or.inl ⟨by rfl, ?_⟩) hH ?_
          rotate_left
          · (intro wS hS; (try dsimp only at hS); obtain ⟨k1, k2, k3, k4⟩ := fourF K5.out hx hS; go_simp; try rfl)
          try simp only [Act.put, List.setIfInBounds_toArray, List.set_cons_zero, List.set_cons_succ]
          refine wpAnyH_take (i := 15) (v := ?_) (by simp only [List.getElem?_toArray, List.getElem?_cons_succ, List.getElem?_cons_zero]; rfl) (by kernel_rfl) (by kernel_rfl) (by kernel_rfl) (by exact fun _ _ _ h => h) (Or.inl ⟨by rfl, ?_⟩) hH ?_
          rotate_left
          · (intro wS hS; (try dsimp only at hS); obtain ⟨k1, k2, k3, k4⟩ := fourF K5.out hx hS; go_simp; try rfl)
          try simp only [Act.put, List.setIfInBounds_toArray, List.set_cons_zero, List.set_cons_succ]
          refine wpAnyH_take (i := 16) (v := ?_) (by simp only [List.getElem?_toArray, List.getElem?_cons_succ, List.getElem?_cons_zero]; rfl) (by kernel_rfl) (by kernel_rfl) (by kernel_rfl) (by exact fun _ _ _ h => h) (Or.inl ⟨by rfl, ?_⟩) hH ?_
          rotate_left
          · (intro wS hS; (try dsimp only at hS); obtain ⟨k1, k2, k3, k4⟩ := fourF K5.out hx hS; go_simp; try rfl)
          try simp only [Act.put, List.setIfInBounds_toArray, List.set_cons_zero, List.set_cons_succ]
          refine wpAnyH_take (i := 17) (v := ?_) (by simp only [List.getElem?_toArray, List.getElem?_cons_succ, List.getElem?_cons_zero]; rfl) (by kernel_rfl) (by kernel_rfl) (by kernel_rfl) (by exact fun _ _ _ h => h) (Or.inl ⟨by rfl, ?_⟩) hH ?_
          rotate_left
          · (intro wS hS; (try dsimp only at hS); obtain ⟨k1, k2, k3, k4⟩ := fourF K5.out hx hS; go_simp; try rfl)
          try simp only [Act.put, List.setIfInBounds_toArray, List.set_cons_zero, List.set_cons_succ]
          refine wpAnyH_take (i := 18) (v := ?_) (by simp only [List.getElem?_toArray, List.getElem?_cons_succ, List.getElem?_cons_zero]; rfl) (by kernel_rfl) (by kernel_rfl) (by kernel_rfl) (by exact fun _ _ _ h => h) (Or.inl ⟨by rfl, ?_⟩) hH ?_
          rotate_left
          · (intro wS hS; (try dsimp only at hS); obtain ⟨k1, k2, k3, k4⟩ := fourF K5.out hx hS; go_simp; try rfl)
          try simp only [Act.put, List.setIfInBounds_toArray, List.set_cons_zero, List.set_cons_succ]
          refine wpAnyH_take (i := 19) (v := ?_) (by simp only [List.getElem?_toArray, List.getElem?_cons_succ, List.getElem?_cons_zero]; rfl) (by kernel_rfl) (by kernel_rfl) (by kernel_rfl) (by exact fun _ _ _ h => h) (Or.inl ⟨by rfl, ?_⟩) hH ?_
          rotate_left
          · (intro wS hS; (try dsimp only at hS); obtain ⟨k1, k2, k3, k4⟩ := fourF K5.out hx hS; go_simp; try rfl)
          try simp only [Act.put, List.setIfInBounds_toArray, List.set_cons_zero, List.set_cons_succ]
          refine wpAnyH_take (i := 20) (v := ?_) (by simp only [List.getElem?_toArray, List.getElem?_cons_succ, List.getElem?_cons_zero]; rfl) (by kernel_rfl) (by kernel_rfl) (by kernel_rfl) (by exact fun _ _ _ h => h) (Or.inl ⟨by rfl, ?_⟩) hH ?_
          rotate_left
          · (intro wS hS; (try dsimp only at hS); obtain ⟨k1, k2, k3, k4⟩ := fourF K5.out hx hS; go_simp; try rfl)
          try simp only [Act.put, List.setIfInBounds_toArray, List.set_cons_zero, List.set_cons_succ]
          refine wpAnyH_take (i := 21) (v := ?_) (by simp only [List.getElem?_toArray, List.getElem?_cons_succ, List.getElem?_cons_zero]; rfl) (by kernel_rfl) (by kernel_rfl) (by kernel_rfl) (by exact fun _ _ _ h => h) (Or.inl ⟨by rfl, ?_⟩) hH ?_
          rotate_left
          · (intro wS hS; (try dsimp only at hS); obtain ⟨k1, k2, k3, k4⟩ := fourF K5.out hx hS; go_simp; try rfl)
          try simp only [Act.put, List.setIfInBounds_toArray, List.set_cons_zero, List.set_cons_succ]
          refine wpAnyH_take (i := 22) (v := ?_) (by simp only [List.getElem?_toArray, List.getElem?_cons_succ, List.getElem?_cons_zero]; rfl) (by kernel_rfl) (by kernel_rfl) (by kernel_rfl) (by exact fun _ _ _ h => h) (Or.inl ⟨by rfl, ?_⟩) hH ?_
          rotate_left
          · (intro wS hS; (try dsimp only at hS); obtain ⟨k1, k2, k3, k4⟩ := fourF K5.out hx hS; go_simp; try rfl)
          try simp only [Act.put, List.setIfInBounds_toArray, List.set_cons_zero, List.set_cons_succ]
          refine wpAnyH_take (i := 23) (v := ?_) (by simp only [List.getElem?_toArray, List.getElem?_cons_succ, List.getElem?_cons_zero]; rfl) (by kernel_rfl) (by kernel_rfl) (by kernel_rfl) (by exact fun _ _ _ h => h) (Or.inl ⟨by rfl, ?_⟩) hH ?_
          rotate_left
          · (intro wS hS; (try dsimp only at hS); obtain ⟨k1, k2, k3, k4⟩ := fourF K5.out hx hS; go_simp; try rfl)
          try simp only [Act.put, List.setIfInBounds_toArray, List.set_cons_zero, List.set_cons_succ]
          refine wpAnyH_take (i := 24) (v := ?_) (by simp only [List.getElem?_toArray, List.getElem?_cons_succ, List.getElem?_cons_zero]; rfl) (by kernel_rfl) (by kernel_rfl) (by kernel_rfl) (by exact fun _ _ _ h => h) (Or.inl ⟨by rfl, ?_⟩) hH ?_
          rotate_left
          · (intro wS hS; (try dsimp only at hS); obtain ⟨k1, k2, k3, k4⟩ := fourF K5.out hx hS; go_simp; try rfl)
          try simp only [Act.put, List.setIfInBounds_toArray, List.set_cons_zero, List.set_cons_succ]
          refine wpAnyH_ready (rs := [25, 29]) (by kernel_rfl) (by simp) ?_
          refine AllReadyH.cons (by simp only [List.getElem?_toArray, List.getElem?_cons_succ, List.getElem?_cons_zero]; rfl) (fun K hK => ?_) (AllReadyH.cons (by simp only [List.getElem?_toArray, List.getElem?_cons_succ, List.getElem?_cons_zero]; rfl) (fun K hK => ?_) AllReadyH.nil)
          · go_simp
            have hs1 := hH.size
            (with_reducible refine (sOpSome _ _ _ _ r c q qc zs _ (O.out.rd2.below hH) HLZ.out HZ.out O.out.spot2).mono ?_)
            rintro e v1 ⟨r', c', q', qc', zs', ok, rfl, own, hs, hb1⟩
            have OW := Lib.hid own.inn
            have HS := Lib.hid hs
            clear own hs
            try dsimp only
            refine hK.out _ _ ?_ (fun hH2 => ?_)
            · exact hH.trans (hb1.mono hH.size)
            clear hK K
            have hO := hH
            clear hH
            have hH := hH2
            clear hH2
            try simp only [Act.put, List.setIfInBounds_toArray, List.set_cons_zero, List.set_cons_succ]
            have z1 := hb1.size
            refine wpAnyH_take (i := 26) (v := ?_) (by simp only [List.getElem?_toArray, List.getElem?_cons_succ, List.getElem?_cons_zero]; rfl) (by kernel_rfl) (by kernel_rfl) (by kernel_rfl) (by exact fun _ _ _ h => h) (Or.inl ⟨by rfl, ?_⟩) hH ?_
            rotate_left
            · (intro wS hS; clear hS; go_simp; try rfl)
            try simp only [Act.put, List.setIfInBounds_toArray, List.set_cons_zero, List.set_cons_succ]
            refine wpAnyH_take (i := 27) (v := ?_) (by simp only [List.getElem?_toArray, List.getElem?_cons_succ, List.getElem?_cons_zero]; rfl) (by kernel_rfl) (by kernel_rfl) (by kernel_rfl) (by exact fun _ _ _ h => h) (Or.inl ⟨by rfl, ?_⟩) hH ?_
            rotate_left
            · (intro wS hS; clear hS; go_simp; try rfl)
            try simp only [Act.put, List.setIfInBounds_toArray, List.set_cons_zero, List.set_cons_succ]
            refine wpAnyH_take (i := 28) (v := ?_) (by simp only [List.getElem?_toArray, List.getElem?_cons_succ, List.getElem?_cons_zero]; rfl) (by kernel_rfl) (by kernel_rfl) (by kernel_rfl) (by exact fun _ _ _ h => h) (Or.inl ⟨by rfl, ?_⟩) hH ?_
            rotate_left
            · (intro wS hS; clear hS; go_simp; try rfl)
            try simp only [Act.put, List.setIfInBounds_toArray, List.set_cons_zero, List.set_cons_succ]
            refine wpAnyH_ready (rs := [29]) (by kernel_rfl) (by simp) ?_
            refine AllReadyH.cons (by simp only [List.getElem?_toArray, List.getElem?_cons_succ, List.getElem?_cons_zero]; rfl) (fun K hK => ?_) AllReadyH.nil
            go_simp
            have VB : Hid (Blk3 (v1.alloc (.cells #[.int .i64 0, .int .i64 0, .slice none 0 0] 26)) v1.heap.size 26 (.int .i64 0) (.int .i64 0) (.slice none 0 0)) := Blk3.at_ _ _ _ _ rfl
            have PL : wr.heap.size ≤ v1.heap.size := hH.size
            try dsimp only
            refine hK.out _ _ ?_ (fun hH2 => ?_)
            · exact hH.alloc hH.size _
            clear hK K
            have hO := hH
            clear hH
            have hH := hH2
            clear hH2
            try simp only [Act.put, List.setIfInBounds_toArray, List.set_cons_zero, List.set_cons_succ]
            refine wpAnyH_ready (rs := [30]) (by kernel_rfl) (by simp) ?_
            refine AllReadyH.cons (by simp only [List.getElem?_toArray, List.getElem?_cons_succ, List.getElem?_cons_zero]; rfl) (fun K hK => ?_) AllReadyH.nil
            go_simp
            have VB : Hid (Blk3 (v1.alloc (.cells #[(.int .i64 r'), (.int .i64 c'), (.slice q' zs'.length qc')] 26)) v1.heap.size 26 ((.int .i64 r')) ((.int .i64 c')) ((.slice q' zs'.length qc'))) := Blk3.at_ _ _ _ _ rfl
            try dsimp only
            refine hK.out _ _ ?_ (fun hH2 => ?_)
            · exact hO.alloc hO.size _
            clear hK K
            have hO := hH
            clear hH
            have hH := hH2
            clear hH2
            try simp only [Act.put, List.setIfInBounds_toArray, List.set_cons_zero, List.set_cons_succ]
            refine wpAnyH_take (i := 31) (v := ?_) (by simp only [List.getElem?_toArray, List.getElem?_cons_succ, List.getElem?_cons_zero]; rfl) (by kernel_rfl) (by kernel_rfl) (by kernel_rfl) (by exact fun _ _ _ h => h) (Or.inl ⟨by rfl, ?_⟩) hH ?_
            rotate_left
            · (intro wS hS; clear hS; go_simp; try rfl)
            try simp only [Act.put, List.setIfInBounds_toArray, List.set_cons_zero, List.set_cons_succ]
            refine wpAnyH_done (by kernel_rfl) ?_ _
            have K5n := Lib.hid (K5.out.keep hH l5)
            have K2n := Lib.hid (K2.out.keep hH l2)
            have IW := Lib.hid ((OW.out.old (.cells #[.int .i64 r', .int .i64 c', .slice q' zs'.length qc'] 26)).wide hs1 (Nat.le_refl _)).own
            have B9 := Lib.hid (B.out.trans (hH.mono B.out.size))
            have BS := B.out.size
            obtain ⟨vb0, vb1, vb2, -, -, -⟩ := VB.out.all
            obtain ⟨kb0, kb1, kb2, kb3, kb4, kb5⟩ := K5n.out.all
            have lvb := VB.out.lt
            have lkb := K5n.out.lt
            clear hH hO
            go_wp2_with fail
            go_roundw
            case rel =>
              refine ⟨j + 1, r', c', q', qc', zs', by go_num, by omega, K2n.out.far3 (by omega) _ _ _, K5n.out.set3 _ _ _, ?_, HS.out.1, HS.out.2, ?_⟩
              · exact (((IW.out.far2 (by exact l5) _).far2 (by exact l5) _).far2 (by exact l5) _).le (by omega)
              · exact ((B9.out.setCell (by show w.heap.size ≤ w1.heap.size; omega) _).setCell (by show w.heap.size ≤ w1.heap.size; omega) _).setCell (by show w.heap.size ≤ w1.heap.size; omega) _
            case measure => simp [intOf]; omega
          · go_simp
            have VB : Hid (Blk3 (wr.drew.alloc (.cells #[.int .i64 0, .int .i64 0, .slice none 0 0] 26)) wr.heap.size 26 (.int .i64 0) (.int .i64 0) (.slice none 0 0)) := Blk3.at_ _ _ _ _ rfl
            have PL : wr.heap.size ≤ wr.drew.heap.size := hH.size
            try dsimp only
            refine hK.out _ _ ?_ (fun hH2 => ?_)
            · exact hH.alloc hH.size _
            clear hK K
            have hO := hH
            clear hH
            have hH := hH2
            clear hH2
            try simp only [Act.put, List.setIfInBounds_toArray, List.set_cons_zero, List.set_cons_succ]
            refine wpAnyH_ready (rs := [25]) (by kernel_rfl) (by simp) ?_
            refine AllReadyH.cons (by simp only [List.getElem?_toArray, List.getElem?_cons_succ, List.getElem?_cons_zero]; rfl) (fun K hK => ?_) AllReadyH.nil
            go_simp
            have hs1 := hH.size
            have lb1 := VB.out.lt
            (with_reducible refine (sOpSome _ _ _ _ r c q qc zs _ (O.out.rd2.below hH) HLZ.out HZ.out O.out.spot2).mono ?_)
            rintro e v1 ⟨r', c', q', qc', zs', ok, rfl, own, hs, hb1⟩
            have OW := Lib.hid own.inn
            have HS := Lib.hid hs
            clear own hs
            have VB := Lib.hid (VB.out.keep hb1 VB.out.lt)
            try dsimp only
            refine hK.out _ _ ?_ (fun hH2 => ?_)
            · exact hH.trans (hb1.mono hH.size)
            clear hK K
            have hO := hH
            clear hH
            have hH := hH2
            clear hH2
            try simp only [Act.put, List.setIfInBounds_toArray, List.set_cons_zero, List.set_cons_succ]
            have z1 := hb1.size
            refine wpAnyH_take (i := 26) (v := ?_) (by simp only [List.getElem?_toArray, List.getElem?_cons_succ, List.getElem?_cons_zero]; rfl) (by kernel_rfl) (by kernel_rfl) (by kernel_rfl) (by exact fun _ _ _ h => h) (Or.inl ⟨by rfl, ?_⟩) hH ?_
            rotate_left
            · (intro wS hS; clear hS; go_simp; try rfl)
            try simp only [Act.put, List.setIfInBounds_toArray, List.set_cons_zero, List.set_cons_succ]
            refine wpAnyH_take (i := 27) (v := ?_) (by simp only [List.getElem?_toArray, List.getElem?_cons_succ, List.getElem?_cons_zero]; rfl) (by kernel_rfl) (by kernel_rfl) (by kernel_rfl) (by exact fun _ _ _ h => h) (Or.inl ⟨by rfl, ?_⟩) hH ?_
            rotate_left
            · (intro wS hS; clear hS; go_simp; try rfl)
            try simp only [Act.put, List.setIfInBounds_toArray, List.set_cons_zero, List.set_cons_succ]
            refine wpAnyH_take (i := 28) (v := ?_) (by simp only [List.getElem?_toArray, List.getElem?_cons_succ, List.getElem?_cons_zero]; rfl) (by kernel_rfl) (by kernel_rfl) (by kernel_rfl) (by exact fun _ _ _ h => h) (Or.inl ⟨by rfl, ?_⟩) hH ?_
            rotate_left
            · (intro wS hS; clear hS; go_simp; try rfl)
            try simp only [Act.put, List.setIfInBounds_toArray, List.set_cons_zero, List.set_cons_succ]
            refine wpAnyH_ready (rs := [30]) (by kernel_rfl) (by simp) ?_
            refine AllReadyH.cons (by simp only [List.getElem?_toArray, List.getElem?_cons_succ, List.getElem?_cons_zero]; rfl) (fun K hK => ?_) AllReadyH.nil
            obtain ⟨y0, y1, y2, y3, y4, y5⟩ := VB.out.all
            go_simp
            have VB := Lib.hid (((VB.out.set0 ((.int .i64 r'))).set1 ((.int .i64 c'))).set2 ((.slice q' zs'.length qc')))
            try dsimp only
            refine hK.out _ _ ?_ (fun hH2 => ?_)
            · exact (((hH.setCell PL _).setCell PL _).setCell PL _)
            clear hK K
            have hO := hH
            clear hH
            have hH := hH2
            clear hH2
            try simp only [Act.put, List.setIfInBounds_toArray, List.set_cons_zero, List.set_cons_succ]
            refine wpAnyH_take (i := 31) (v := ?_) (by simp only [List.getElem?_toArray, List.getElem?_cons_succ, List.getElem?_cons_zero]; rfl) (by kernel_rfl) (by kernel_rfl) (by kernel_rfl) (by exact fun _ _ _ h => h) (Or.inl ⟨by rfl, ?_⟩) hH ?_
            rotate_left
            · (intro wS hS; clear hS; go_simp; try rfl)
            try simp only [Act.put, List.setIfInBounds_toArray, List.set_cons_zero, List.set_cons_succ]
            refine wpAnyH_done (by kernel_rfl) ?_ _
            have K5n := Lib.hid (K5.out.keep hH l5)
            have K2n := Lib.hid (K2.out.keep hH l2)
            have IW := Lib.hid ((((OW.out.far (a := ⟨wr.heap.size, 0, none⟩) (.inl (by simp)) (.int .i64 r')).far (a := ⟨wr.heap.size, 1, none⟩) (.inl (by simp)) (.int .i64 c')).far (a := ⟨wr.heap.size, 2, none⟩) (.inl (by simp)) (.slice q' zs'.length qc')).wide hs1 (Nat.le_refl _)).own
            have B9 := Lib.hid (B.out.trans (hH.mono B.out.size))
            have BS := B.out.size
            obtain ⟨vb0, vb1, vb2, -, -, -⟩ := VB.out.all
            obtain ⟨kb0, kb1, kb2, kb3, kb4, kb5⟩ := K5n.out.all
            have lvb := VB.out.lt
            have lkb := K5n.out.lt
            clear hH hO
            go_wp2_with fail
            go_roundw
            case rel =>
              refine ⟨j + 1, r', c', q', qc', zs', by go_num, by omega, K2n.out.far3 (by omega) _ _ _, K5n.out.set3 _ _ _, ?_, HS.out.1, HS.out.2, ?_⟩
              · exact (((IW.out.far2 (by exact l5) _).far2 (by exact l5) _).far2 (by exact l5) _).le (by omega)
              · exact ((B9.out.setCell (by show w.heap.size ≤ w1.heap.size; omega) _).setCell (by show w.heap.size ≤ w1.heap.size; omega) _).setCell (by show w.heap.size ≤ w1.heap.size; omega) _
            case measure => simp [intOf]; omega
        · have g1 : (j : Int) < 6 := by omega
          have g2 : decide (1 < n) = false := by simpa using h3
          have g3 : decide (n > 1) = false := by simpa using h3
          go_wp2_with fail
          exact bodyPost_ret (v := .agg #[.int .i64 r, .int .i64 c, .slice q zs.length qc]) (by simp [results, Try.results14, go_sem, EE0.out, EE1.out, EE2.out]) rfl (EN.out _ _ _ rfl rfl rfl)
      · have g1 : decide ((j : Int) < 6) = false := by simp; omega
        clear h2
        go_wp2_with fail
        exact bodyPost_ret (v := .agg #[.int .i64 r, .int .i64 c, .slice q zs.length qc]) (by simp [results, Try.results14, go_sem, EE0.out, EE1.out, EE2.out]) rfl (EN.out _ _ _ rfl rfl rfl)
    · have g1 : decide (j < len) = false := by simpa using h1
      go_wp2_with fail
      exact bodyPost_ret (v := .agg #[.int .i64 r, .int .i64 c, .slice q zs.length qc]) (by simp [results, Try.results14, go_sem, EE0.out, EE1.out, EE2.out]) rfl (EN.out _ _ _ rfl rfl rfl)
end Go.Proofs.Ytpknondccajinaa
end

section
/-
  The laws' unit and mix: mix is a matrix whose determinant is 1, or it is empty.
-/
namespace Go.Proofs.Ytpknondccajinaa
open Go.RowKit

/-- What mix makes: its determinant is 1, or it is empty. -/
def MixP (n r c : Int) (zs : List Int) : Prop := (r = n ∧ c = n ∧ 0 ≤ n ∧ zs.length = n.toNat * n.toNat ∧ nums zs = true ∧ det n.toNat (mxL n.toNat zs) = 1) ∨ (r = 0 ∧ c = 0 ∧ zs = [] ∧ 1 < n)
def UniOf (n : Int) (w : World) (e : Ending) (w' : World) : Prop := ∃ (r c : Int) (q : Option Addr) (qc : Nat) (zs : List Int), e = .returned (.agg #[.int .i64 r, .int .i64 c, .slice q zs.length qc]) ∧ Own w.heap.size w' (.slice q zs.length qc) zs ∧ MixP n r c zs ∧ zs.length ≤ 600 ∧ Below w.heap.size w w'
theorem idM_D (n : Int) (h0 : 0 ≤ n) (h6 : n ≤ 24) : MixP n (idM n).r (idM n).c (idM n).zs ∧ (idM n).zs.length ≤ 600 := by
  unfold idM
  rw [if_pos ⟨h0, by omega⟩]
  refine ⟨.inl ⟨rfl, rfl, h0, idL_length _ _, idL_nums _, idL_det _⟩, ?_⟩
  show (idL n.toNat n.toNat).length ≤ 600
  rw [idL_length]
  have : n.toNat * n.toNat ≤ 24 * 24 := Nat.mul_le_mul (by omega) (by omega)
  omega
theorem opM_len (k i j t r c : Int) (xs : List Int) (hl : xs.length ≤ 600) : (opM k i j t r c xs).zs.length ≤ 600 := by
  unfold opM MR.done
  split
  · split
    · show (opL k i.toNat j.toNat t c.toNat xs).length ≤ 600
      rw [opL_length]; exact hl
    · simp [MR.no]
  · simp [MR.no]
theorem opM_D (n i j t r c : Int) (xs : List Int) (h : MixP n r c xs) (hn : 1 < n) (hl : xs.length ≤ 600) : MixP n (opM 2 i j t r c xs).r (opM 2 i j t r c xs).c (opM 2 i j t r c xs).zs ∧ (opM 2 i j t r c xs).zs.length ≤ 600 := by
  refine ⟨?_, (opM_len 2 i j t r c xs hl)⟩
  rcases Bool.eq_false_or_eq_true (opM 2 i j t r c xs).ok with ho | ho
  · rcases h with ⟨rfl, rfl, h0, hz, hx, hd⟩ | ⟨rfl, rfl, rfl, -⟩
    · obtain ⟨N, rfl⟩ := Int.eq_ofNat_of_zero_le h0
      obtain ⟨ys, e, -, -, hy, ny, dy⟩ := opM_det ho
      rw [e]
      refine .inl ⟨rfl, rfl, h0, hy, ny, ?_⟩
      show det N (mxL N ys) = 1
      rw [dy]
      have hd : det N (mxL N xs) = 1 := hd
      rw [hd]; rfl
    · exfalso
      unfold opM at ho
      by_cases h1 : (isMat 0 0 [] && isOp 2 i j t 0) = true
      · simp only [Bool.and_eq_true] at h1
        have := isOp_says h1.2
        omega
      · rw [if_neg h1] at ho; exact absurd ho (by simp [MR.no])
  · have e : opM 2 i j t r c xs = MR.no := by
      unfold opM at ho ⊢
      split
      · rename_i h1
        rw [if_pos h1] at ho
        unfold MR.done at ho ⊢
        split
        · rename_i h2; rw [if_pos h2] at ho; exact absurd ho (by simp)
        · rfl
      · rfl
    rw [e]
    exact .inr ⟨rfl, rfl, rfl, hn⟩
theorem sOpD (n : Int) (h1 : 1 < n) (i j t r c : Int) (a : Option Addr) (m : Nat) (xs : List Int) (w : World) (h : Rd w a xs) (hn : xs.length ≤ 600) (hz : MixP n r c xs) (ha : Spot a) :
    Calls Try.prog 50 #[.agg #[.int .i64 r, .int .i64 c, .slice a xs.length m], .agg #[.int .i64 2, .int .i64 i, .int .i64 j, .int .i64 t]] w (fun e w' => ∃ (r' c' : Int) (q' : Option Addr) (qc' : Nat) (zs' : List Int) (ok : Bool), e = .returned (.tuple #[.agg #[.int .i64 r', .int .i64 c', .slice q' zs'.length qc'], .bool ok]) ∧ Own w.heap.size w' (.slice q' zs'.length qc') zs' ∧ (MixP n r' c' zs' ∧ zs'.length ≤ 600) ∧ Below w.heap.size w w') := by
  refine (sOp 2 i j t r c a m xs w h (by omega) ha).mono ?_
  rintro e w' ⟨v, rfl, own, hb⟩
  have hs := opM_D n i j t r c xs hz h1 hn
  obtain ⟨q, qc, rfl, -, -⟩ := own.form
  exact ⟨_, _, q, qc, _, _, rfl, own, hs, hb⟩
theorem lUnitX (n : Int) (w : World) : Calls Try.prog 49 #[.int .i64 n] w (fun e w' => ∃ (q : Option Addr) (qc : Nat), e = .returned (.agg #[.int .i64 (idM n).r, .int .i64 (idM n).c, .slice q (idM n).zs.length qc]) ∧ Own w.heap.size w' (.slice q (idM n).zs.length qc) (idM n).zs ∧ Below w.heap.size w w') := by
  obtain ⟨mr, hmr⟩ : ∃ mr, idM n = mr := ⟨_, rfl⟩
  rw [hmr]
  have MRH := Lib.hid hmr
  clear hmr
  go_enter Try.func49, Try.ntmps49
  go_wp2_with fail
  refine (sIdent n _).mono ?_
  rintro e w1 ⟨v, rfl, own, hb⟩
  rw [MRH.out] at own ⊢
  obtain ⟨q, qc, rfl, -, -⟩ := own.form
  have K2 : Hid (Blk3 w1 w.heap.size 26 (.int .i64 0) (.int .i64 0) (.slice none 0 0)) := (Blk3.at_ _ _ _ _ rfl).keep hb (by simp)
  have B : Hid (Below w.heap.size w w1) := ((Below.refl _ _).alloc (Nat.le_refl _) _).trans (hb.mono (by simp))
  have O := Lib.hid (own.le (show w.heap.size ≤ _ by simp))
  have OI : Hid (∀ x y z, Own w.heap.size ((((w1.alloc (.cells #[.int .i64 mr.r, .int .i64 mr.c, .slice q mr.zs.length qc] 26)).setCell ⟨w.heap.size, 0, none⟩ x).setCell ⟨w.heap.size, 1, none⟩ y).setCell ⟨w.heap.size, 2, none⟩ z) (.slice q mr.zs.length qc) mr.zs) := fun x y z => by
    rcases (own.old2 (.cells #[.int .i64 mr.r, .int .i64 mr.c, .slice q mr.zs.length qc] 26)) with h | ⟨g, cap, hv, hB, hi, hl, hc⟩
    · exact .inl h
    · have hB : w.heap.size + 1 ≤ g := by simpa using hB
      exact .inr ⟨g, cap, hv, by omega, ((hi.far (by show g ≠ w.heap.size; omega) _).far (by show g ≠ w.heap.size; omega) _).far (by show g ≠ w.heap.size; omega) _, hl, hc⟩
  clear own hb
  have K2 := Lib.hid (K2.out.old (.cells #[.int .i64 mr.r, .int .i64 mr.c, .slice q mr.zs.length qc] 26))
  obtain ⟨s0, s1, s2, f0, f1, f2⟩ := K2.out.all
  go_wp2_with fail
  obtain ⟨E0, E1, E2, -, -, -⟩ := (K2.out.set3 (.int .i64 mr.r) (.int .i64 mr.c) (.slice q mr.zs.length qc)).all
  refine bodyPost_ret (v := .agg #[.int .i64 mr.r, .int .i64 mr.c, .slice q mr.zs.length qc]) (by simp [results, Try.results49, go_sem, E0, E1, E2]) rfl ⟨q, qc, rfl, OI.out _ _ _, ?_⟩
  exact ((((B.out.alloc B.out.size _).setCell (Nat.le_refl _) _).setCell (Nat.le_refl _) _).setCell (Nat.le_refl _) _)

set_option maxRecDepth 100000 in
set_option maxHeartbeats 4000000 in
theorem lMixW (n : Int) (a : Option Addr) (len cap : Nat) (w : World) (hc : CodeIn w a len) (hn0 : 0 ≤ n) (hn6 : n ≤ 24) : Calls Try.prog 14 #[.slice a len cap, .int .i64 n] w (UniOf n w) := by
  have HC := Lib.hid hc
  have hl := hc.1
  clear hc
  unfold maxLen at hl
  go_enter Try.func14, Try.ntmps14
  go_wp2_with fail
  refine (lUnitX n _).mono ?_
  obtain ⟨hz, hlz⟩ := idM_D n hn0 hn6
  generalize (idM n).r = rA at hz ⊢
  generalize (idM n).c = cA at hz ⊢
  generalize (idM n).zs = zA at hz hlz ⊢
  rintro e w1 ⟨qA, qcA, rfl, own, hb⟩
  have K2 : Hid (Blk3 (w1.alloc (.cells #[.int .i64 rA, .int .i64 cA, .slice qA zA.length qcA] 26)) w.heap.size 26 (.int .i64 0) (.int .i64 0) (.slice none 0 0)) := ((Blk3.at_ _ _ _ _ rfl).keep hb (by simp)).old _
  have B : Hid (Below w.heap.size w (w1.alloc (.cells #[.int .i64 rA, .int .i64 cA, .slice qA zA.length qcA] 26))) := (((Below.refl _ _).alloc (Nat.le_refl _) _).trans (hb.mono (by simp))).alloc (by have := hb.size; simp at this; omega) _
  have K5 : Hid (Blk3 (w1.alloc (.cells #[.int .i64 rA, .int .i64 cA, .slice qA zA.length qcA] 26)) w1.heap.size 26 (.int .i64 rA) (.int .i64 cA) (.slice qA zA.length qcA)) := Blk3.at_ _ _ _ _ rfl
  have O := Lib.hid ((own.le (show w.heap.size + 1 ≤ _ by simp)).old2 (.cells #[.int .i64 rA, .int .i64 cA, .slice qA zA.length qcA] 26))
  have lw : w.heap.size < w1.heap.size := by have := hb.size; simp at this; omega
  have HZ := Lib.hid hz
  have HLZ := Lib.hid hlz
  clear own hb hz hlz
  go_wp2_with fail
  go_loopw [6, 7, 8, 9] (fun i _ _ _ wr => ∃ (j : Nat) (r c : Int) (q : Option Addr) (qc : Nat) (zs : List Int), i = .int .i64 j ∧ j ≤ 6 ∧ Blk3 wr w.heap.size 26 (.int .i64 0) (.int .i64 0) (.slice none 0 0) ∧ Blk3 wr w1.heap.size 26 (.int .i64 r) (.int .i64 c) (.slice q zs.length qc) ∧ Own (w.heap.size + 1) wr (.slice q zs.length qc) zs ∧ MixP n r c zs ∧ zs.length ≤ 600 ∧ Below w.heap.size w wr) (fun i _ _ _ _ => 6 - (intOf i).toNat)
  case atStart => exact ⟨0, rA, cA, qA, qcA, zA, rfl, by omega, K2.out, K5.out, O.out, HZ.out, HLZ.out, B.out⟩
  case round =>
    clear K2 K5 O HZ HLZ B
    obtain ⟨j, r, c, q, qc, zs, rfl, hj, hk2, hk5, ho, hz, hlz, hb⟩ := hrel
    have K2 := Lib.hid hk2
    have K5 := Lib.hid hk5
    have O := Lib.hid ho
    have HZ := Lib.hid hz
    have HLZ := Lib.hid hlz
    have B := Lib.hid hb
    have l2 := hk2.lt
    have l5 := hk5.lt
    clear hk2 hk5 ho hz hlz hb
    obtain ⟨x0, x1, x2, x3, x4, x5⟩ := K5.out.all
    obtain ⟨s0, s1, s2, f0, f1, f2⟩ := K2.out.all
    have ending : ∀ y0 y1 y2, y0 = Value.int .i64 r → y1 = Value.int .i64 c → y2 = Value.slice q zs.length qc → UniOf n w (.returned (.agg #[y0, y1, y2])) (((wr.setCell ⟨w.heap.size, 0, none⟩ (.int .i64 r)).setCell ⟨w.heap.size, 1, none⟩ (.int .i64 c)).setCell ⟨w.heap.size, 2, none⟩ (.slice q zs.length qc)) := by
      rintro _ _ _ rfl rfl rfl
      refine ⟨r, c, q, qc, zs, rfl, ?_, HZ.out, HLZ.out, ((B.out.setCell (Nat.le_refl _) _).setCell (Nat.le_refl _) _).setCell (Nat.le_refl _) _⟩
      rcases O.out with h | ⟨g, cap, hv, hB, hi, hl, hc⟩
      · exact .inl h
      · exact .inr ⟨g, cap, hv, by omega, ((hi.far (by show g ≠ w.heap.size; omega) _).far (by show g ≠ w.heap.size; omega) _).far (by show g ≠ w.heap.size; omega) _, hl, hc⟩
    have EN := Lib.hid ending
    clear ending
    obtain ⟨E0, E1, E2, -, -, -⟩ := (K2.out.set3 (.int .i64 r) (.int .i64 c) (.slice q zs.length qc)).all
    have EE0 := Lib.hid E0
    have EE1 := Lib.hid E1
    have EE2 := Lib.hid E2
    clear E0 E1 E2
    by_cases h1 : j < len
    · by_cases h2 : j < 6
      · by_cases h3 : 1 < n
        · obtain ⟨b, o, z, ha, hx, z0, z1⟩ := (HC.out.below B.out).2 j h1
          subst ha
          have g1 : (j : Int) < 6 := by omega
          have g2 : ¬ n = 0 := by omega
          have g3 : (n == 0) = false := by simpa using g2
          have g4 : IntKind.i64.wrap (n - 1) = n - 1 := IntWalk.i64_in _ (by omega)
          have g5 : ¬ n - 1 = 0 := by omega
          have g6 : (n - 1 == 0) = false := by simpa using g5
          go_wp2_with fail
          refine wp_region_held_drew (S := fun w' => Below wr.heap.size wr w') (by kernel_rfl) (Below.refl _ _).drew (fun hH => ?_)
          refine wpAnyH_take (i := 0) (v := ?_) (by simp only [List.getElem?_toArray, List.getElem?_cons_zero]; rfl) (by kernel_rfl) (by kernel_rfl) (by kernel_rfl) (by exact fun _ _ _ h => h) (Or.inl ⟨by rfl, ?_⟩) hH ?_
          rotate_left
          · (intro wS hS; (try dsimp only at hS); obtain ⟨k1, k2, k3, k4⟩ := fourF K5.out hx hS; go_simp; try rfl)
          try simp only [Act.put, List.setIfInBounds_toArray, List.set_cons_zero, List.set_cons_succ]
          refine wpAnyH_take (i := 1) (v := ?_) (by simp only [List.getElem?_toArray, List.getElem?_cons_succ, List.getElem?_cons_zero]; rfl) (by kernel_rfl) (by kernel_rfl) (by kernel_rfl) (by exact fun _ _ _ h => h) (Or.inl ⟨by rfl, ?_⟩) hH ?_
          rotate_left
          · (intro wS hS; (try dsimp only at hS); obtain ⟨k1, k2, k3, k4⟩ := fourF K5.out hx hS; go_simp; try rfl)
          try simp only [Act.put, List.setIfInBounds_toArray, List.set_cons_zero, List.set_cons_succ]
          refine wpAnyH_take (i := 2) (v := ?_) (by simp only [List.getElem?_toArray, List.getElem?_cons_succ, List.getElem?_cons_zero]; rfl) (by kernel_rfl) (by kernel_rfl) (by kernel_rfl) (by exact fun _ _ _ h => h) (Or.inl ⟨by rfl, ?_⟩) hH ?_
          rotate_left
          · (intro wS hS; (try dsimp only at hS); obtain ⟨k1, k2, k3, k4⟩ := fourF K5.out hx hS; go_simp; try rfl)
          try simp only [Act.put, List.setIfInBounds_toArray, List.set_cons_zero, List.set_cons_succ]
          refine wpAnyH_take (i := 3) (v := ?_) (by simp only [List.getElem?_toArray, List.getElem?_cons_succ, List.getElem?_cons_zero]; rfl) (by kernel_rfl) (by kernel_rfl) (by kernel_rfl) (by exact fun _ _ _ h => h) (Or.inl ⟨by rfl, ?_⟩) hH ?_
          rotate_left
          · (intro wS hS; (try dsimp only at hS); obtain ⟨k1, k2, k3, k4⟩ := fourF K5.out hx hS; go_simp; try rfl)
          try simp only [Act.put, List.setIfInBounds_toArray, List.set_cons_zero, List.set_cons_succ]
          refine wpAnyH_take (i := 4) (v := ?_) (by simp only [List.getElem?_toArray, List.getElem?_cons_succ, List.getElem?_cons_zero]; rfl) (by kernel_rfl) (by kernel_rfl) (by kernel_rfl) (by exact fun _ _ _ h => h) (Or.inl ⟨by rfl, ?_⟩) hH ?_
          rotate_left
          · (intro wS hS; (try dsimp only at hS); obtain ⟨k1, k2, k3, k4⟩ := fourF K5.out hx hS; go_simp; try rfl)
          try simp only [Act.put, List.setIfInBounds_toArray, List.set_cons_zero, List.set_cons_succ]
          refine wpAnyH_take (i := 5) (v := ?_) (by simp only [List.getElem?_toArray, List.getElem?_cons_succ, List.getElem?_cons_zero]; rfl) (by kernel_rfl) (by kernel_rfl) (by kernel_rfl) (by exact fun _ _ _ h => h) (Or.inl ⟨by rfl, ?_⟩) hH ?_
          rotate_left
          · (intro wS hS; (try dsimp only at hS); obtain ⟨k1, k2, k3, k4⟩ := fourF K5.out hx hS; go_simp; try rfl)
          try simp only [Act.put, List.setIfInBounds_toArray, List.set_cons_zero, List.set_cons_succ]
          refine wpAnyH_take (i := 6) (v := ?_) (by simp only [List.getElem?_toArray, List.getElem?_cons_succ, List.getElem?_cons_zero]; rfl) (by kernel_rfl) (by kernel_rfl) (by kernel_rfl) (by exact fun _ _ _ h => h) (Or.inl ⟨by rfl, ?_⟩) hH ?_
          rotate_left
          · (intro wS hS; (try dsimp only at hS); obtain ⟨k1, k2, k3, k4⟩ := fourF K5.out hx hS; go_simp; try rfl)
          try simp only [Act.put, List.setIfInBounds_toArray, List.set_cons_zero, List.set_cons_succ]
          refine wpAnyH_take (i := 7) (v := ?_) (by simp only [List.getElem?_toArray, List.getElem?_cons_succ, List.getElem?_cons_zero]; rfl) (by kernel_rfl) (by kernel_rfl) (by kernel_rfl) (by exact fun _ _ _ h => h) (Or.inl ⟨by rfl, ?_⟩) hH ?_
          rotate_left
          · (intro wS hS; (try dsimp only at hS); obtain ⟨k1, k2, k3, k4⟩ := fourF K5.out hx hS; go_simp; try rfl)
          try simp only [Act.put, List.setIfInBounds_toArray, List.set_cons_zero, List.set_cons_succ]
          refine wpAnyH_take (i := 8) (v := ?_) (by simp only [List.getElem?_toArray, List.getElem?_cons_succ, List.getElem?_cons_zero]; rfl) (by kernel_rfl) (by kernel_rfl) (by kernel_rfl) (by exact fun _ _ _ h => h) (Or.inl ⟨by rfl, ?_⟩) hH ?_
          rotate_left
          · (intro wS hS; (try dsimp only at hS); obtain ⟨k1, k2, k3, k4⟩ := fourF K5.out hx hS; go_simp; try rfl)
          try simp only [Act.put, List.setIfInBounds_toArray, List.set_cons_zero, List.set_cons_succ]
          refine wpAnyH_take (i := 9) (v := ?_) (by simp only [List.getElem?_toArray, List.getElem?_cons_succ, List.getElem?_cons_zero]; rfl) (by kernel_rfl) (by kernel_rfl) (by kernel_rfl) (by exact fun _ _ _ h => h) (Or.inl ⟨by rfl, ?_⟩) hH ?_
          rotate_left
          · (intro wS hS; (try dsimp only at hS); obtain ⟨k1, k2, k3, k4⟩ := fourF K5.out hx hS; go_simp; try rfl)
          try simp only [Act.put, List.setIfInBounds_toArray, List.set_cons_zero, List.set_cons_succ]
          refine wpAnyH_take (i := 10) (v := ?_) (by simp only [List.getElem?_toArray, List.getElem?_cons_succ, List.getElem?_cons_zero]; rfl) (by kernel_rfl) (by kernel_rfl) (by kernel_rfl) (by exact fun _ _ _ h => h) (Or.inl ⟨by rfl, ?_⟩) hH ?_
          rotate_left
          · (intro wS hS; (try dsimp only at hS); obtain ⟨k1, k2, k3, k4⟩ := fourF K5.out hx hS; go_simp; try rfl)
          try simp only [Act.put, List.setIfInBounds_toArray, List.set_cons_zero, List.set_cons_succ]
          refine wpAnyH_take (i := 11) (v := ?_) (by simp only [List.getElem?_toArray, List.getElem?_cons_succ, List.getElem?_cons_zero]; rfl) (by kernel_rfl) (by kernel_rfl) (by kernel_rfl) (by exact fun _ _ _ h => h) (Or.inl ⟨by rfl, ?_⟩) hH ?_
          rotate_left
          · (intro wS hS; (try dsimp only at hS); obtain ⟨k1, k2, k3, k4⟩ := fourF K5.out hx hS; go_simp; try rfl)
          try simp only [Act.put, List.setIfInBounds_toArray, List.set_cons_zero, List.set_cons_succ]
          refine wpAnyH_take (i := 12) (v := ?_) (by simp only [List.getElem?_toArray, List.getElem?_cons_succ, List.getElem?_cons_zero]; rfl) (by kernel_rfl) (by kernel_rfl) (by kernel_rfl) (by exact fun _ _ _ h => h) (Or.inl ⟨by rfl, ?_⟩) hH ?_
          rotate_left
          · (intro wS hS; (try dsimp only at hS); obtain ⟨k1, k2, k3, k4⟩ := fourF K5.out hx hS; go_simp; try rfl)
          try simp only [Act.put, List.setIfInBounds_toArray, List.set_cons_zero, List.set_cons_succ]
          refine wpAnyH_take (i := 13) (v := ?_) (by simp only [List.getElem?_toArray, List.getElem?_cons_succ, List.getElem?_cons_zero]; rfl) (by kernel_rfl) (by kernel_rfl) (by kernel_rfl) (by exact fun _ _ _ h => h) (Or.inl ⟨by rfl, ?_⟩) hH ?_
          rotate_left
          · (intro wS hS; (try dsimp only at hS); obtain ⟨k1, k2, k3, k4⟩ := fourF K5.out hx hS; go_simp; try rfl)
          try simp only [Act.put, List.setIfInBounds_toArray, List.set_cons_zero, List.set_cons_succ]
          refine wpAnyH_take (i := 14) (v := ?_) (by simp only [List.getElem?_toArray, List.getElem?_cons_succ, List.getElem?_cons_zero]; rfl) (by kernel_rfl) (by kernel_rfl) (by kernel_rfl) (by exact fun _ _ _ h => h) (Or.inl ⟨by rfl, ?_⟩) hH ?_
          rotate_left
          · (intro wS hS; (try dsimp only at hS); obtain ⟨k1, k2, k3, k4⟩ := fourF K5.out hx hS; go_simp; try rfl)
          try simp only [Act.put, List.setIfInBounds_toArray, List.set_cons_zero, List.set_cons_succ]
          refine wpAnyH_take (i := 15) (v := ?_) (by simp only [List.getElem?_toArray, List.getElem?_cons_succ, List.getElem?_cons_zero]; rfl) (by kernel_rfl) (by kernel_rfl) (by kernel_rfl) (by exact fun _ _ _ h => h) (Or.inl ⟨by rfl, ?_⟩) hH ?_
          rotate_left
          · (intro wS hS; (try dsimp only at hS); obtain ⟨k1, k2, k3, k4⟩ := fourF K5.out hx hS; go_simp; try rfl)
          try simp only [Act.put, List.setIfInBounds_toArray, List.set_cons_zero, List.set_cons_succ]
          refine wpAnyH_take (i := 16) (v := ?_) (by simp only [List.getElem?_toArray, List.getElem?_cons_succ, List.getElem?_cons_zero]; rfl) (by kernel_rfl) (by kernel_rfl) (by kernel_rfl) (by exact fun _ _ _ h => h) (Or.inl ⟨by rfl, ?_⟩) hH ?_
          rotate_left
          · (intro wS hS; (try dsimp only at hS); obtain ⟨k1, k2, k3, k4⟩ := fourF K5.out hx hS; go_simp; try rfl)
          try simp only [Act.put, List.setIfInBounds_toArray, List.set_cons_zero, List.set_cons_succ]
          refine wpAnyH_take (i := 17) (v := ?_) (by simp only [List.getElem?_toArray, List.getElem?_cons_succ, List.getElem?_cons_zero]; rfl) (by kernel_rfl) (by kernel_rfl) (by kernel_rfl) (by exact fun _ _ _ h => h) (Or.inl ⟨by rfl, ?_⟩) hH ?_
          rotate_left
          · (intro wS hS; (try dsimp only at hS); obtain ⟨k1, k2, k3, k4⟩ := fourF K5.out hx hS; go_simp; try rfl)
          try simp only [Act.put, List.setIfInBounds_toArray, List.set_cons_zero, List.set_cons_succ]
          refine wpAnyH_take (i := 18) (v := ?_) (by simp only [List.getElem?_toArray, List.getElem?_cons_succ, List.getElem?_cons_zero]; rfl) (by kernel_rfl) (by kernel_rfl) (by kernel_rfl) (by exact fun _ _ _ h => h) (Or.inl ⟨by rfl, ?_⟩) hH ?_
          rotate_left
          · (intro wS hS; (try dsimp only at hS); obtain ⟨k1, k2, k3, k4⟩ := fourF K5.out hx hS; go_simp; try rfl)
          try simp only [Act.put, List.setIfInBounds_toArray, List.set_cons_zero, List.set_cons_succ]
          refine wpAnyH_take (i := 19) (v := ?_) (by simp only [List.getElem?_toArray, List.getElem?_cons_succ, List.getElem?_cons_zero]; rfl) (by kernel_rfl) (by kernel_rfl) (by kernel_rfl) (by exact fun _ _ _ h => h) (Or.inl ⟨by rfl, ?_⟩) hH ?_
          rotate_left
          · (intro wS hS; (try dsimp only at hS); obtain ⟨k1, k2, k3, k4⟩ := fourF K5.out hx hS; go_simp; try rfl)
          try simp only [Act.put, List.setIfInBounds_toArray, List.set_cons_zero, List.set_cons_succ]
          refine wpAnyH_take (i := 20) (v := ?_) (by simp only [List.getElem?_toArray, List.getElem?_cons_succ, List.getElem?_cons_zero]; rfl) (by kernel_rfl) (by kernel_rfl) (by kernel_rfl) (by exact fun _ _ _ h => h) (Or.inl ⟨by rfl, ?_⟩) hH ?_
          rotate_left
          · (intro wS hS; (try dsimp only at hS); obtain ⟨k1, k2, k3, k4⟩ := fourF K5.out hx hS; go_simp; try rfl)
          try simp only [Act.put, List.setIfInBounds_toArray, List.set_cons_zero, List.set_cons_succ]
          refine wpAnyH_take (i := 21) (v := ?_) (by simp only [List.getElem?_toArray, List.getElem?_cons_succ, List.getElem?_cons_zero]; rfl) (by kernel_rfl) (by kernel_rfl) (by kernel_rfl) (by exact fun _ _ _ h => h) (Or.inl ⟨by rfl, ?_⟩) hH ?_
          rotate_left
          · (intro wS hS; (try dsimp only at hS); obtain ⟨k1, k2, k3, k4⟩ := fourF K5.out hx hS; go_simp; try rfl)
          try simp only [Act.put, List.setIfInBounds_toArray, List.set_cons_zero, List.set_cons_succ]
          refine wpAnyH_take (i := 22) (v := ?_) (by simp only [List.getElem?_toArray, List.getElem?_cons_succ, List.getElem?_cons_zero]; rfl) (by kernel_rfl) (by kernel_rfl) (by kernel_rfl) (by exact fun _ _ _ h => h) (Or.inl ⟨by rfl, ?_⟩) hH ?_
          rotate_left
          · (intro wS hS; (try dsimp only at hS); obtain ⟨k1, k2, k3, k4⟩ := fourF K5.out hx hS; go_simp; try rfl)
          try simp only [Act.put, List.setIfInBounds_toArray, List.set_cons_zero, List.set_cons_succ]
          refine wpAnyH_take (i := 23) (v := ?_) (by simp only [List.getElem?_toArray, List.getElem?_cons_succ, List.getElem?_cons_zero]; rfl) (by kernel_rfl) (by kernel_rfl) (by kernel_rfl) (by exact fun _ _ _ h => h) (Or.inl ⟨by rfl, ?_⟩) hH ?_
          rotate_left
          · (intro wS hS; (try dsimp only at hS); obtain ⟨k1, k2, k3, k4⟩ := fourF K5.out hx hS; go_simp; try rfl)
          try simp only [Act.put, List.setIfInBounds_toArray, List.set_cons_zero, List.set_cons_succ]
          refine wpAnyH_take (i := 24) (v := ?_) (by simp only [List.getElem?_toArray, List.getElem?_cons_succ, List.getElem?_cons_zero]; rfl) (by kernel_rfl) (by kernel_rfl) (by kernel_rfl) (by exact fun _ _ _ h => h) (Or.inl ⟨by rfl, ?_⟩) hH ?_
          rotate_left
          · (intro wS hS; (try dsimp only at hS); obtain ⟨k1, k2, k3, k4⟩ := fourF K5.out hx hS; go_simp; try rfl)
          try simp only [Act.put, List.setIfInBounds_toArray, List.set_cons_zero, List.set_cons_succ]
          refine wpAnyH_ready (rs := [25, 29]) (by kernel_rfl) (by simp) ?_
          refine AllReadyH.cons (by simp only [List.getElem?_toArray, List.getElem?_cons_succ, List.getElem?_cons_zero]; rfl) (fun K hK => ?_) (AllReadyH.cons (by simp only [List.getElem?_toArray, List.getElem?_cons_succ, List.getElem?_cons_zero]; rfl) (fun K hK => ?_) AllReadyH.nil)
          · go_simp
            have hs1 := hH.size
            (with_reducible refine (sOpD n h3 _ _ _ r c q qc zs _ (O.out.rd2.below hH) HLZ.out HZ.out O.out.spot2).mono ?_)
            rintro e v1 ⟨r', c', q', qc', zs', ok, rfl, own, hs, hb1⟩
            have OW := Lib.hid own.inn
            have HS := Lib.hid hs
            clear own hs
            try dsimp only
            refine hK.out _ _ ?_ (fun hH2 => ?_)
            · exact hH.trans (hb1.mono hH.size)
            clear hK K
            have hO := hH
            clear hH
            have hH := hH2
            clear hH2
            try simp only [Act.put, List.setIfInBounds_toArray, List.set_cons_zero, List.set_cons_succ]
            have z1 := hb1.size
            refine wpAnyH_take (i := 26) (v := ?_) (by simp only [List.getElem?_toArray, List.getElem?_cons_succ, List.getElem?_cons_zero]; rfl) (by kernel_rfl) (by kernel_rfl) (by kernel_rfl) (by exact fun _ _ _ h => h) (Or.inl ⟨by rfl, ?_⟩) hH ?_
            rotate_left
            · (intro wS hS; clear hS; go_simp; try rfl)
            try simp only [Act.put, List.setIfInBounds_toArray, List.set_cons_zero, List.set_cons_succ]
            refine wpAnyH_take (i := 27) (v := ?_) (by simp only [List.getElem?_toArray, List.getElem?_cons_succ, List.getElem?_cons_zero]; rfl) (by kernel_rfl) (by kernel_rfl) (by kernel_rfl) (by exact fun _ _ _ h => h) (Or.inl ⟨by rfl, ?_⟩) hH ?_
            rotate_left
            · (intro wS hS; clear hS; go_simp; try rfl)
            try simp only [Act.put, List.setIfInBounds_toArray, List.set_cons_zero, List.set_cons_succ]
            refine wpAnyH_take (i := 28) (v := ?_) (by simp only [List.getElem?_toArray, List.getElem?_cons_succ, List.getElem?_cons_zero]; rfl) (by kernel_rfl) (by kernel_rfl) (by kernel_rfl) (by exact fun _ _ _ h => h) (Or.inl ⟨by rfl, ?_⟩) hH ?_
            rotate_left
            · (intro wS hS; clear hS; go_simp; try rfl)
            try simp only [Act.put, List.setIfInBounds_toArray, List.set_cons_zero, List.set_cons_succ]
            refine wpAnyH_ready (rs := [29]) (by kernel_rfl) (by simp) ?_
            refine AllReadyH.cons (by simp only [List.getElem?_toArray, List.getElem?_cons_succ, List.getElem?_cons_zero]; rfl) (fun K hK => ?_) AllReadyH.nil
            go_simp
            have VB : Hid (Blk3 (v1.alloc (.cells #[.int .i64 0, .int .i64 0, .slice none 0 0] 26)) v1.heap.size 26 (.int .i64 0) (.int .i64 0) (.slice none 0 0)) := Blk3.at_ _ _ _ _ rfl
            have PL : wr.heap.size ≤ v1.heap.size := hH.size
            try dsimp only
            refine hK.out _ _ ?_ (fun hH2 => ?_)
            · exact hH.alloc hH.size _
            clear hK K
            have hO := hH
            clear hH
            have hH := hH2
            clear hH2
            try simp only [Act.put, List.setIfInBounds_toArray, List.set_cons_zero, List.set_cons_succ]
            refine wpAnyH_ready (rs := [30]) (by kernel_rfl) (by simp) ?_
            refine AllReadyH.cons (by simp only [List.getElem?_toArray, List.getElem?_cons_succ, List.getElem?_cons_zero]; rfl) (fun K hK => ?_) AllReadyH.nil
            go_simp
            have VB : Hid (Blk3 (v1.alloc (.cells #[(.int .i64 r'), (.int .i64 c'), (.slice q' zs'.length qc')] 26)) v1.heap.size 26 ((.int .i64 r')) ((.int .i64 c')) ((.slice q' zs'.length qc'))) := Blk3.at_ _ _ _ _ rfl
            try dsimp only
            refine hK.out _ _ ?_ (fun hH2 => ?_)
            · exact hO.alloc hO.size _
            clear hK K
            have hO := hH
            clear hH
            have hH := hH2
            clear hH2
            try simp only [Act.put, List.setIfInBounds_toArray, List.set_cons_zero, List.set_cons_succ]
            refine wpAnyH_take (i := 31) (v := ?_) (by simp only [List.getElem?_toArray, List.getElem?_cons_succ, List.getElem?_cons_zero]; rfl) (by kernel_rfl) (by kernel_rfl) (by kernel_rfl) (by exact fun _ _ _ h => h) (Or.inl ⟨by rfl, ?_⟩) hH ?_
            rotate_left
            · (intro wS hS; clear hS; go_simp; try rfl)
            try simp only [Act.put, List.setIfInBounds_toArray, List.set_cons_zero, List.set_cons_succ]
            refine wpAnyH_done (by kernel_rfl) ?_ _
            have K5n := Lib.hid (K5.out.keep hH l5)
            have K2n := Lib.hid (K2.out.keep hH l2)
            have IW := Lib.hid ((OW.out.old (.cells #[.int .i64 r', .int .i64 c', .slice q' zs'.length qc'] 26)).wide hs1 (Nat.le_refl _)).own
            have B9 := Lib.hid (B.out.trans (hH.mono B.out.size))
            have BS := B.out.size
            obtain ⟨vb0, vb1, vb2, -, -, -⟩ := VB.out.all
            obtain ⟨kb0, kb1, kb2, kb3, kb4, kb5⟩ := K5n.out.all
            have lvb := VB.out.lt
            have lkb := K5n.out.lt
            clear hH hO
            go_wp2_with fail
            go_roundw
            case rel =>
              refine ⟨j + 1, r', c', q', qc', zs', by go_num, by omega, K2n.out.far3 (by omega) _ _ _, K5n.out.set3 _ _ _, ?_, HS.out.1, HS.out.2, ?_⟩
              · exact (((IW.out.far2 (by exact l5) _).far2 (by exact l5) _).far2 (by exact l5) _).le (by omega)
              · exact ((B9.out.setCell (by show w.heap.size ≤ w1.heap.size; omega) _).setCell (by show w.heap.size ≤ w1.heap.size; omega) _).setCell (by show w.heap.size ≤ w1.heap.size; omega) _
            case measure => simp [intOf]; omega
          · go_simp
            have VB : Hid (Blk3 (wr.drew.alloc (.cells #[.int .i64 0, .int .i64 0, .slice none 0 0] 26)) wr.heap.size 26 (.int .i64 0) (.int .i64 0) (.slice none 0 0)) := Blk3.at_ _ _ _ _ rfl
            have PL : wr.heap.size ≤ wr.drew.heap.size := hH.size
            try dsimp only
            refine hK.out _ _ ?_ (fun hH2 => ?_)
            · exact hH.alloc hH.size _
            clear hK K
            have hO := hH
            clear hH
            have hH := hH2
            clear hH2
            try simp only [Act.put, List.setIfInBounds_toArray, List.set_cons_zero, List.set_cons_succ]
            refine wpAnyH_ready (rs := [25]) (by kernel_rfl) (by simp) ?_
            refine AllReadyH.cons (by simp only [List.getElem?_toArray, List.getElem?_cons_succ, List.getElem?_cons_zero]; rfl) (fun K hK => ?_) AllReadyH.nil
            go_simp
            have hs1 := hH.size
            have lb1 := VB.out.lt
            (with_reducible refine (sOpD n h3 _ _ _ r c q qc zs _ (O.out.rd2.below hH) HLZ.out HZ.out O.out.spot2).mono ?_)
            rintro e v1 ⟨r', c', q', qc', zs', ok, rfl, own, hs, hb1⟩
            have OW := Lib.hid own.inn
            have HS := Lib.hid hs
            clear own hs
            have VB := Lib.hid (VB.out.keep hb1 VB.out.lt)
            try dsimp only
            refine hK.out _ _ ?_ (fun hH2 => ?_)
            · exact hH.trans (hb1.mono hH.size)
            clear hK K
            have hO := hH
            clear hH
            have hH := hH2
            clear hH2
            try simp only [Act.put, List.setIfInBounds_toArray, List.set_cons_zero, List.set_cons_succ]
            have z1 := hb1.size
            refine wpAnyH_take (i := 26) (v := ?_) (by simp only [List.getElem?_toArray, List.getElem?_cons_succ, List.getElem?_cons_zero]; rfl) (by kernel_rfl) (by kernel_rfl) (by kernel_rfl) (by exact fun _ _ _ h => h) (Or.inl ⟨by rfl, ?_⟩) hH ?_
            rotate_left
            · (intro wS hS; clear hS; go_simp; try rfl)
            try simp only [Act.put, List.setIfInBounds_toArray, List.set_cons_zero, List.set_cons_succ]
            refine wpAnyH_take (i := 27) (v := ?_) (by simp only [List.getElem?_toArray, List.getElem?_cons_succ, List.getElem?_cons_zero]; rfl) (by kernel_rfl) (by kernel_rfl) (by kernel_rfl) (by exact fun _ _ _ h => h) (Or.inl ⟨by rfl, ?_⟩) hH ?_
            rotate_left
            · (intro wS hS; clear hS; go_simp; try rfl)
            try simp only [Act.put, List.setIfInBounds_toArray, List.set_cons_zero, List.set_cons_succ]
            refine wpAnyH_take (i := 28) (v := ?_) (by simp only [List.getElem?_toArray, List.getElem?_cons_succ, List.getElem?_cons_zero]; rfl) (by kernel_rfl) (by kernel_rfl) (by kernel_rfl) (by exact fun _ _ _ h => h) (Or.inl ⟨by rfl, ?_⟩) hH ?_
            rotate_left
            · (intro wS hS; clear hS; go_simp; try rfl)
            try simp only [Act.put, List.setIfInBounds_toArray, List.set_cons_zero, List.set_cons_succ]
            refine wpAnyH_ready (rs := [30]) (by kernel_rfl) (by simp) ?_
            refine AllReadyH.cons (by simp only [List.getElem?_toArray, List.getElem?_cons_succ, List.getElem?_cons_zero]; rfl) (fun K hK => ?_) AllReadyH.nil
            have VC := VB
            obtain ⟨y0, y1, y2, y3, y4, y5⟩ := VB.out.all
            go_simp
            have VB := Lib.hid (((VB.out.set0 ((.int .i64 r'))).set1 ((.int .i64 c'))).set2 ((.slice q' zs'.length qc')))
            try dsimp only
            refine hK.out _ _ ?_ (fun hH2 => ?_)
            · exact (((hH.setCell PL _).setCell PL _).setCell PL _)
            clear hK K
            have hO := hH
            clear hH
            have hH := hH2
            clear hH2
            try simp only [Act.put, List.setIfInBounds_toArray, List.set_cons_zero, List.set_cons_succ]
            refine wpAnyH_take (i := 31) (v := ?_) (by simp only [List.getElem?_toArray, List.getElem?_cons_succ, List.getElem?_cons_zero]; rfl) (by kernel_rfl) (by kernel_rfl) (by kernel_rfl) (by exact fun _ _ _ h => h) (Or.inl ⟨by rfl, ?_⟩) hH ?_
            rotate_left
            · (intro wS hS; clear hS; go_simp; try rfl)
            try simp only [Act.put, List.setIfInBounds_toArray, List.set_cons_zero, List.set_cons_succ]
            refine wpAnyH_done (by kernel_rfl) ?_ _
            have K5n := Lib.hid (K5.out.keep hH l5)
            have K2n := Lib.hid (K2.out.keep hH l2)
            have IW := Lib.hid ((((OW.out.far (a := ⟨wr.heap.size, 0, none⟩) (.inl (by simp)) (.int .i64 r')).far (a := ⟨wr.heap.size, 1, none⟩) (.inl (by simp)) (.int .i64 c')).far (a := ⟨wr.heap.size, 2, none⟩) (.inl (by simp)) (.slice q' zs'.length qc')).wide hs1 (Nat.le_refl _)).own
            have B9 := Lib.hid (B.out.trans (hH.mono B.out.size))
            have BS := B.out.size
            obtain ⟨vb0, vb1, vb2, -, -, -⟩ := VB.out.all
            obtain ⟨kb0, kb1, kb2, kb3, kb4, kb5⟩ := K5n.out.all
            have lvb := VB.out.lt
            have lkb := K5n.out.lt
            clear hH hO
            go_wp2_with fail
            go_roundw
            case rel =>
              refine ⟨j + 1, r', c', q', qc', zs', by go_num, by omega, K2n.out.far3 (by omega) _ _ _, K5n.out.set3 _ _ _, ?_, HS.out.1, HS.out.2, ?_⟩
              · exact (((IW.out.far2 (by exact l5) _).far2 (by exact l5) _).far2 (by exact l5) _).le (by omega)
              · exact ((B9.out.setCell (by show w.heap.size ≤ w1.heap.size; omega) _).setCell (by show w.heap.size ≤ w1.heap.size; omega) _).setCell (by show w.heap.size ≤ w1.heap.size; omega) _
            case measure => simp [intOf]; omega
        · have g1 : (j : Int) < 6 := by omega
          have g2 : decide (1 < n) = false := by simpa using h3
          have g3 : decide (n > 1) = false := by simpa using h3
          go_wp2_with fail
          exact bodyPost_ret (v := .agg #[.int .i64 r, .int .i64 c, .slice q zs.length qc]) (by simp [results, Try.results14, go_sem, EE0.out, EE1.out, EE2.out]) rfl (EN.out _ _ _ rfl rfl rfl)
      · have g1 : decide ((j : Int) < 6) = false := by simp; omega
        clear h2
        go_wp2_with fail
        exact bodyPost_ret (v := .agg #[.int .i64 r, .int .i64 c, .slice q zs.length qc]) (by simp [results, Try.results14, go_sem, EE0.out, EE1.out, EE2.out]) rfl (EN.out _ _ _ rfl rfl rfl)
    · have g1 : decide (j < len) = false := by simpa using h1
      go_wp2_with fail
      exact bodyPost_ret (v := .agg #[.int .i64 r, .int .i64 c, .slice q zs.length qc]) (by simp [results, Try.results14, go_sem, EE0.out, EE1.out, EE2.out]) rfl (EN.out _ _ _ rfl rfl rfl)
theorem lMixD (n : Int) (a : Option Addr) (len cap : Nat) (w : World) (hc : CodeIn w a len) (hn0 : 0 ≤ n) (hn6 : n ≤ 6) : Calls Try.prog 14 #[.slice a len cap, .int .i64 n] w (UniOf n w) := lMixW n a len cap w hc hn0 (by omega)
end Go.Proofs.Ytpknondccajinaa
end

section
/-
  Plain mathematics of chapter 7: what FnEchelon asks. Nothing of a program is used.
-/
namespace Go.Proofs.Ytpknondccajinaa
open Go.RowKit

theorem echR_none {r c : Int} {xs : List Int} (h : (echR r c xs).ok = false) : echR r c xs = ER.no := by
  unfold echR at h ⊢
  by_cases hm : isMat r c xs = true
  · rw [if_pos hm] at h ⊢
    cases he : echM r.toNat c.toNat xs with
    | none => rfl
    | some o =>
      rw [he] at h
      exact absurd h (by simp [ER.of])
  · rw [if_neg hm]
theorem isMat_mk {r c : Nat} {zs : List Int} (hr : r ≤ 24) (hc : c ≤ 24) (hl : zs.length = r * c) (hn : nums zs = true) : isMat r c zs = true := by
  have h1 : (zs.length : Int) = (r : Int) * (c : Int) := by rw [← Int.natCast_mul]; omega
  unfold isMat
  simp only [Bool.and_eq_true, decide_eq_true_eq]
  exact ⟨⟨⟨⟨by omega, by omega⟩, ⟨by omega, by omega⟩⟩, h1⟩, hn⟩
theorem echR_of {r c : Nat} {zs us : List Int} {pv : List Nat} (hr : r ≤ 24) (hc : c ≤ 24) (hl : zs.length = r * c) (hn : nums zs = true) (he : echM r c zs = some (us, pv)) : echR r c zs = ⟨r, c, us, pvI pv, true⟩ := by
  unfold echR
  rw [if_pos (isMat_mk hr hc hl hn)]
  show ER.of r c (echM r c zs) = _
  rw [he]
  rfl
/-- The form of a form is the form itself, and it is one. -/
theorem fix_law {r c : Int} {xs : List Int} {A : ER} (h : echR r c xs = A) (ho : A.ok = true) : echR A.r A.c A.zs = A ∧ echIs A.r A.c A.zs = true ∧ 0 ≤ r ∧ r ≤ 24 := by
  subst h
  obtain ⟨-, R, C, ys, pv, rfl, rfl, hR, hC, hx, nx, he, e, hy, -⟩ := echR_ok ho
  obtain ⟨-, -, -, -, ny, -⟩ := echM_says hx nx he
  have hf := echM_fix hx nx he
  rw [e]
  refine ⟨echR_of hR hC hy ny hf, ?_, by omega, by omega⟩
  show echIs R C ys = true
  unfold echIs
  rw [isMat_mk hR hC hy ny, Bool.true_and]
  show (match echM R C ys with | some (us, _) => decide (us = ys) | none => false) = true
  rw [hf]
  exact decide_eq_true rfl
/-- A unimodular product has the same form. -/
theorem mix_law {r c rM cM : Int} {xs zM : List Int} {A : ER} {m : MR} (h : echR r c xs = A) (ho : A.ok = true) (hp : MixP r rM cM zM) (hm : mulM rM cM zM r c xs = m) (hk : m.ok = true) (h2 : (echR m.r m.c m.zs).ok = true) : echR m.r m.c m.zs = A := by
  subst h
  obtain ⟨-, R, C, ys, pv, rfl, rfl, hR, hC, hx, nx, he, e, hy, -⟩ := echR_ok ho
  obtain ⟨R', K, C', e1, e2, e3, e4, m1, -, e5⟩ := mulM_says (by rw [hm]; exact hk)
  obtain rfl : R = K := by omega
  obtain rfl : C = C' := by omega
  rcases hp with ⟨p1, p2, -, p4, -, pd⟩ | ⟨p1, p2, -, p3⟩
  · obtain rfl : R = R' := by omega
    rw [hm] at e5
    subst e5
    obtain ⟨-, R2, C2, us, qv, q1, q2, -, -, hx2, nx2, he2, e6, -, -⟩ := echR_ok h2
    have q1 : rM = (R2 : Int) := q1
    have q2 : (C : Int) = (C2 : Int) := q2
    obtain rfl : R = R2 := by omega
    obtain rfl : C = C2 := by omega
    have hx2 : (mulL R R C zM xs).length = R * C := hx2
    have nx2 : nums (mulL R R C zM xs) = true := nx2
    have he2 : echM R C (mulL R R C zM xs) = some (us, qv) := he2
    have pd : det R (mxL R zM) = 1 := pd
    have at_ : ∀ i j, i < R → j < C → mxC C (mulL R R C zM xs) i j = mulX R (mxL R zM) (mxC C xs) i j := fun i j hi hj => by
      show (mulL R R C zM xs).getD (i * C + j) 0 = _
      unfold mulL
      rw [tab_at R C _ hi hj, dot_sum]
      rfl
    have s1 : SubSp R R C (mulX R (mxL R zM) (mxC C xs)) (mxC C (mulL R R C zM xs)) := fun i hi => (InSp.row (A := mxC C (mulL R R C zM xs)) hi).congr fun j hj => (at_ i j hi hj).symm
    have s2 : SubSp R R C (mxC C (mulL R R C zM xs)) (mulX R (mxL R zM) (mxC C xs)) := fun i hi => (InSp.row (A := mulX R (mxL R zM) (mxC C xs)) hi).congr fun j hj => at_ i j hi hj
    obtain ⟨u1, u2⟩ := ech_same hx nx hx2 nx2 he he2 ((span_mul (by rw [pd]; decide)).trans s1) (s2.trans (sub_mul _ _))
    show echR rM C (mulL R R C zM xs) = _
    rw [e, u1, u2, p1]
    exact echR_of hR hC hx2 nx2 he2
  · omega
/-- The rank of what is turned over. -/
theorem turn_law {r c : Int} {xs : List Int} {A : ER} {m : MR} (h : echR r c xs = A) (ho : A.ok = true) (hm : turnM r c xs = m) (h2 : (echR m.r m.c m.zs).ok = true) : (echR m.r m.c m.zs).pv.length = A.pv.length := by
  subst h
  obtain ⟨hmx, R, C, ys, pv, rfl, rfl, hR, hC, hx, nx, he, e, hy, -⟩ := echR_ok ho
  rw [turnM_ok hmx] at hm
  subst hm
  obtain ⟨-, R2, C2, us, qv, q1, q2, -, -, hx2, nx2, he2, e6, -, -⟩ := echR_ok h2
  have q1 : (C : Int) = (R2 : Int) := q1
  have q2 : (R : Int) = (C2 : Int) := q2
  obtain rfl : C = R2 := by omega
  obtain rfl : R = C2 := by omega
  have hx2 : (turnL R C xs).length = C * R := hx2
  have nx2 : nums (turnL R C xs) = true := nx2
  have he2 : echM C R (turnL R C xs) = some (us, qv) := he2
  have e6 : echR C R (turnL R C xs) = ⟨C, R, us, pvI qv, true⟩ := e6
  show (echR C R (turnL R C xs)).pv.length = _
  rw [e, e6]
  show (pvI qv).length = (pvI pv).length
  rw [pvI_length, pvI_length]
  refine ech_turn hx nx hx2 nx2 (fun i j hi hj => ?_) he he2
  show (turnL R C xs).getD (i * R + j) 0 = _
  unfold turnL
  exact tab_at C R _ hi hj
end Go.Proofs.Ytpknondccajinaa
end

section
/-
  Chapter 7, in the program: whether a row alone has something in a column, of the rows from one on.
-/
namespace Go.Proofs.Ytpknondccajinaa
set_option maxRecDepth 100000
open Go.RowKit

set_option maxHeartbeats 1000000 in
theorem iAloneF (r c N t i l : Nat) (a : Option Addr) (m : Nat) (xs : List Int) (w : World) (h : Rd w a xs) (hx : xs.length = N) (hN : N = r * c) (hr : r ≤ 24) (hc : c ≤ 24) (hl : l < c) (ht : t ≤ r) (b : Bool) (hb : b = true ↔ ∀ k, t ≤ k → k < r → k ≠ i → mxC c xs k l = 0) :
    Calls Try.prog 53 #[.agg #[.int .i64 r, .int .i64 c, .slice a N m], .int .i64 t, .int .i64 i, .int .i64 l] w (Gives (.bool b) w) := by
  have hle : r * c ≤ 24 * 24 := Nat.mul_le_mul hr hc
  rw [← hN] at hle
  have IX : Hid (∀ k, k < r → ∃ P : Nat, k * c + l = P ∧ P < N ∧ IntKind.i64.wrap ((k : Int) * (c : Int)) = (k : Int) * (c : Int) ∧ IntKind.i64.wrap ((k : Int) * (c : Int) + (l : Int)) = (P : Int)) := fun k hk => by
    have h1 : k * c + l < r * c := idx_lt hk hl
    have c1 : (k : Int) * (c : Int) = ((k * c : Nat) : Int) := (Int.natCast_mul _ _).symm
    refine ⟨k * c + l, rfl, by omega, IntWalk.i64_in _ (by rw [c1]; omega), ?_⟩
    rw [show (k : Int) * (c : Int) + (l : Int) = ((k * c + l : Nat) : Int) by rw [c1]; omega]
    exact IntWalk.i64_in _ (by omega)
  have BW : Hid (Below w.heap.size w (w.alloc (.cells #[.int .i64 r, .int .i64 c, .slice a N m] 26))) := (Below.refl _ _).alloc (Nat.le_refl _) _
  have K0 : Hid (Blk3 (w.alloc (.cells #[.int .i64 r, .int .i64 c, .slice a N m] 26)) w.heap.size 26 (.int .i64 r) (.int .i64 c) (.slice a N m)) := Blk3.at_ _ _ _ _ rfl
  have CX : Hid (∀ k P, k < r → k * c + l = P → ∃ b o : Nat, a = some ⟨b, o, none⟩ ∧ (w.alloc (.cells #[.int .i64 r, .int .i64 c, .slice a N m] 26)).cell? ⟨b, o + P, none⟩ = some (.int .i64 (mxC c xs k l))) := fun k P hk hP => by
    subst hP
    exact h.below BW.out _ (by rw [hx, hN]; exact idx_lt hk hl)
  have HB := Lib.hid hb
  clear hN hx h hb
  go_enter Try.func53, Try.ntmps53
  go_wp2_with fail
  generalize w.alloc (.cells #[.int .i64 r, .int .i64 c, .slice a N m] 26) = W at BW K0 CX
  obtain ⟨p0, p1, p2, -, -, -⟩ := K0.out.all
  go_wp2_with fail
  go_loopw [8, 9] (fun _ v9 wq => ∃ k : Nat, v9 = .int .i64 k ∧ t ≤ k ∧ k ≤ r ∧ (∀ p, t ≤ p → p < k → p ≠ i → mxC c xs p l = 0) ∧ wq = W) (fun _ v9 _ => r - (intOf v9).toNat)
  case atStart => exact ⟨t, rfl, Nat.le_refl _, ht, fun p h1 h2 => by omega, rfl⟩
  case round =>
    obtain ⟨k, rfl, htk, hk, hz, rfl⟩ := hrel
    have Z := Lib.hid hz
    clear hz
    by_cases hkr : k < r
    · by_cases hki : k = i
      · have n1 : ((k : Int) != (i : Int)) = false := by simp [hki]
        have Z1 : Hid (∀ p, t ≤ p → p < k + 1 → p ≠ i → mxC c xs p l = 0) := fun p h0 h1 h2 => Z.out p h0 (by omega) h2
        clear hki
        go_wp2_with fail
        go_roundw
        case rel => exact ⟨k + 1, by go_num, by omega, by omega, Z1.out, trivial⟩
        case measure => simp [intOf]; omega
      · have n1 : ((k : Int) != (i : Int)) = true := by simp; omega
        obtain ⟨P, hP, hPN, u1, u2⟩ := IX.out k hkr
        have Pa : (0 : Int) ≤ (P : Int) := by omega
        have Pb : (P : Int) < (N : Int) := by omega
        obtain ⟨g, o, rfl, hcell⟩ := CX.out k P hkr hP
        obtain ⟨x, hxx⟩ : ∃ x, mxC c xs k l = x := ⟨_, rfl⟩
        have X := Lib.hid hxx
        rw [hxx] at hcell
        clear hxx hP
        by_cases h0 : x = 0
        · have n2 : (x != 0) = false := by simp [h0]
          have n3 : (x == 0) = true := by simp [h0]
          have Z1 : Hid (∀ p, t ≤ p → p < k + 1 → p ≠ i → mxC c xs p l = 0) := fun p h4 h1 h2 => by
            rcases Nat.lt_or_ge p k with h3 | h3
            · exact Z.out p h4 h3 h2
            · obtain rfl : p = k := by omega
              rw [X.out, h0]
          clear h0 hki
          go_wp2_with fail
          go_roundw
          case rel => exact ⟨k + 1, by go_num, by omega, by omega, Z1.out, trivial⟩
          case measure => simp [intOf]; omega
        · have n2 : (x != 0) = true := by simpa using h0
          have n3 : (x == 0) = false := by simpa using h0
          have FB : Hid (b = false) := by
            show b = false
            cases b with
            | false => rfl
            | true => exact absurd (HB.out.mp rfl k htk hkr hki) (by rw [X.out]; exact h0)
          clear h0 hki
          go_wp2_with fail
          go_ret
          exact ⟨by rw [FB.out]; rfl, BW.out⟩
    · obtain rfl : r = k := by omega
      clear hkr
      have TB : Hid (b = true) := HB.out.mpr fun p h0 h1 h2 => Z.out p h0 h1 h2
      go_wp2_with fail
      go_ret
      exact ⟨by rw [TB.out]; rfl, BW.out⟩
end Go.Proofs.Ytpknondccajinaa
end

section
/-
  Chapter 7, in the program: a row made primitive (the closure of EchelonOf).
-/
namespace Go.Proofs.Ytpknondccajinaa
set_option maxRecDepth 100000
open Go.RowKit

/-- The cells of a matrix: nil, or all of what shows in block g. -/
def Cel (w : World) (q : Option Addr) (N cap g : Nat) (xs : List Int) : Prop := (q = none ∧ cap = 0 ∧ N = 0 ∧ xs = []) ∨ (q = some ⟨g, 0, none⟩ ∧ N ≤ cap ∧ xs.length = N ∧ Ints w g xs)
theorem Cel.spot {w : World} {q : Option Addr} {N cap g : Nat} {xs : List Int} (h : Cel w q N cap g xs) : Spot q := by
  rcases h with ⟨h, -⟩ | ⟨h, -⟩
  · exact .inl h
  · exact .inr ⟨g, 0, h⟩
theorem Cel.le {w : World} {q : Option Addr} {N cap g : Nat} {xs : List Int} (h : Cel w q N cap g xs) : N ≤ cap := by
  rcases h with ⟨-, h1, h2, -⟩ | ⟨-, h, -⟩ <;> omega
theorem Cel.nil {w : World} {q : Option Addr} {N cap g : Nat} {xs : List Int} (h : Cel w q N cap g xs) (hq : q = none) : cap = 0 := by
  rcases h with ⟨-, h1, -⟩ | ⟨h, -⟩
  · exact h1
  · rw [hq] at h; cases h
theorem Cel.len {w : World} {q : Option Addr} {N cap g : Nat} {xs : List Int} (h : Cel w q N cap g xs) : xs.length = N := by
  rcases h with ⟨-, -, h1, h2⟩ | ⟨-, -, h, -⟩
  · rw [h1, h2]; rfl
  · exact h
theorem Cel.ints {w : World} {q : Option Addr} {N cap g : Nat} {xs : List Int} (h : Cel w q N cap g xs) (h0 : 0 < N) : q = some ⟨g, 0, none⟩ ∧ Ints w g xs := by
  rcases h with ⟨-, -, h1, -⟩ | ⟨h1, -, -, h2⟩
  · omega
  · exact ⟨h1, h2⟩
theorem Cel.rd {w : World} {q : Option Addr} {N cap g : Nat} {xs : List Int} (h : Cel w q N cap g xs) : Rd w q xs := by
  rcases h with ⟨-, -, -, rfl⟩ | ⟨rfl, -, -, h⟩
  · exact Rd.nil _ _
  · exact h.rd
theorem Cel.move {w w' : World} {q : Option Addr} {N cap g : Nat} {xs : List Int} (h : Cel w q N cap g xs) (e : g < w.heap.size → w'.heap[g]? = w.heap[g]?) : Cel w' q N cap g xs := by
  rcases h with h | ⟨h1, h2, h3, h4⟩
  · exact .inl h
  · exact .inr ⟨h1, h2, h3, h4.move (e h4.lt)⟩
theorem Cel.keep {w w' : World} {q : Option Addr} {N cap g : Nat} {xs : List Int} (h : Cel w q N cap g xs) (hb : Below w.heap.size w w') : Cel w' q N cap g xs := h.move fun hl => hb.block g hl
theorem Cel.drewN {w : World} {q : Option Addr} {N cap g : Nat} {xs : List Int} (h : Cel w q N cap g xs) (n : Nat) : Cel (w.drewN n) q N cap g xs := h
theorem Cel.put {w w' : World} {q : Option Addr} {N cap g : Nat} {xs ys : List Int} (h : Cel w q N cap g xs) (h0 : 0 < N) (hl : ys.length = N) (hi : Ints w' g ys) : Cel w' q N cap g ys :=
  .inr ⟨(h.ints h0).1, h.le, hl, hi⟩
theorem Cel.own {w : World} {q : Option Addr} {N cap g B : Nat} {xs : List Int} (h : Cel w q N cap g xs) (hB : B ≤ g) (hN : N ≤ 16777216) : Own B w (.slice q N cap) xs := by
  rcases h with ⟨rfl, rfl, rfl, rfl⟩ | ⟨rfl, h1, h2, h3⟩
  · exact .inl ⟨rfl, rfl⟩
  · exact .inr ⟨g, cap, by rw [h2], hB, h3, by omega, by omega⟩
set_option maxHeartbeats 2000000 in
theorem iPrim (r c i N ob cap g : Nat) (q : Option Addr) (xs : List Int) (w : World) (hN : N = r * c) (hr : r ≤ 24) (hc : c ≤ 24) (hi : i < r) (nx : nums xs = true) (K : Blk3 w ob 26 (.int .i64 r) (.int .i64 c) (.slice q N cap)) (hg : Cel w q N cap g xs) :
    Calls Try.prog 38 #[.int .i64 i, .pointer (some ⟨ob, 0, none⟩)] w (fun e w' => Void e ∧ Cel w' q N cap g (prL r c i xs) ∧ w.grownBy w' (some g)) := by
  have hle : r * c ≤ 24 * 24 := Nat.mul_le_mul hr hc
  rw [← hN] at hle
  have hx := hg.len
  obtain ⟨D, hD⟩ : ∃ D, i * c = D := ⟨_, rfl⟩
  have hDN : D + c ≤ N := by
    rw [hN, ← hD, ← Nat.succ_mul]; exact Nat.mul_le_mul_right _ hi
  have RW : Hid (∀ w', Calls Try.prog 39 #[.agg #[.int .i64 r, .int .i64 c, .slice q N cap], .int .i64 i] w' (RowAt q D c w')) := fun w' => iRowIn r c i D N cap q w' hg.spot hD hDN hg.le hg.nil (by omega) (by omega)
  obtain ⟨v, hv⟩ : ∃ v, mxC c xs i = v := ⟨_, rfl⟩
  have VN : Hid (∀ j, j < c → NumP (v j)) := fun j hj => by rw [← hv]; exact mx_nums (by rw [hx, hN]) nx hi hj
  have RD : Hid (∀ w' q', Cel w' q N cap g xs → (∀ g o : Nat, q = some ⟨g, o, none⟩ → 0 < c → q' = some ⟨g, o + D, none⟩) → Rd w' q' (rwL c v)) := fun w' q' h hq => by
    rw [← hv]
    exact h.rd.row (by rw [hx, hN]) hi (by rw [hD]; exact hq)
  have PV : Hid (prL r c i xs = rowTo r c i (prV c v) xs c) := by show _ = _; rw [rowTo_all, prL_row, hv]
  have RZ : Hid (rowTo r c i (prV c v) xs 0 = xs) := rowTo_zero (by rw [hx, hN])
  have DV : Hid (∀ j, (v j).tdiv (sgD c v) = prV c v j) := fun j => sgD_div j
  have SG : Hid (∀ w' q' m', Rd w' q' (rwL c v) → Calls Try.prog 40 #[.slice q' c m'] w' (fun e w2 => e = .returned (.int .i64 (sgD c v)) ∧ ∃ n, w2 = w'.drewN n)) := fun w' q' m' h => iSgD c m' q' v w' h hc VN.out
  have d0 := sgD_ne c v
  have dn := sgD_num (c := c) (v := v) VN.out
  have RT : Hid (∀ k, k < c → (rowTo r c i (prV c v) xs k).set (D + k) (prV c v k) = rowTo r c i (prV c v) xs (k + 1)) := fun k hk => by rw [← hD]; exact rowTo_step hi hk
  have RX : Hid (∀ k, k < c → (rowTo r c i (prV c v) xs k).getD (D + k) 0 = v k) := fun k hk => by rw [← hD, rowTo_old hi hk (.inr (Nat.le_refl _)), ← hv]; rfl
  have RL : Hid (∀ k, (rowTo r c i (prV c v) xs k).length = N) := fun k => by rw [rowTo_length, hN]
  have PN : Hid (∀ j, j < c → NumP (prV c v j)) := fun j hj => prV_num VN.out hj
  have CG := Lib.hid hg
  generalize sgD c v = d at DV SG d0 dn
  clear hx nx hg hv hN
  generalize prV c v = u at PV RZ DV RT RX RL PN
  unfold NumP at dn
  obtain ⟨p0, p1, p2, -, -, -⟩ := K.all
  clear K hD
  go_enter Try.func38, Try.ntmps38
  go_wp2_with fail
  refine (RW.out _).mono ?_
  rintro e w1 ⟨q', m', rfl, hcm, hq1, hq2, hb1⟩
  have C1 := Lib.hid (CG.out.keep hb1)
  have G1 := Lib.hid (grown_of_below hb1 (some g))
  have R1 := Lib.hid (RD.out _ _ C1.out hq1)
  have Q1 := Lib.hid hq1
  clear hb1 hq1 hq2 p0 p1 p2
  go_wp2_with fail
  refine (SG.out _ _ _ R1.out).mono ?_
  rintro e w2 ⟨rfl, n, rfl⟩
  have C2 := Lib.hid (C1.out.drewN n)
  have G2 := Lib.hid (grown_drewN_one G1.out n)
  clear C1 G1 R1 SG RD RW
  generalize w1.drewN n = w2 at C2 G2 ⊢
  go_wp2_with fail
  go_loopw [5, 13] (fun _ v13 wr => ∃ j : Nat, v13 = .int .i64 j ∧ j ≤ c ∧ Cel wr q N cap g (rowTo r c i u xs j) ∧ w.grownBy wr (some g)) (fun _ v13 _ => c - (intOf v13).toNat)
  case atStart => exact ⟨0, rfl, by omega, by rw [RZ.out]; exact C2.out, G2.out⟩
  case round =>
    clear C2 G2
    obtain ⟨j, rfl, hj, hcel, hgr⟩ := hrel
    have CL := Lib.hid hcel
    have G := Lib.hid hgr
    clear hcel hgr
    by_cases hlt : j < c
    · obtain ⟨e1, hi1⟩ := CL.out.ints (by omega)
      have e2 := Q1.out g 0 e1 (by omega)
      rw [Nat.zero_add] at e2
      subst e2
      have hcell := hi1.cell (i := D + j) (by rw [RL.out]; omega)
      rw [RX.out j hlt] at hcell
      have hfr := hi1.free (D + j)
      have hb := VN.out j hlt
      have ho := PN.out j hlt
      have RS := Lib.hid (RT.out j hlt)
      have dv := DV.out j
      generalize v j = x at hcell hb dv
      obtain ⟨y, hy⟩ : ∃ y, u j = y := ⟨_, rfl⟩
      rw [hy] at RS ho dv
      unfold NumP at hb ho
      have z2 : IntKind.i64.wrap y = y := IntWalk.i64_in _ (by omega)
      have z3 : (d == 0) = false := by simpa using d0
      have I1 := Lib.hid hi1
      clear hy hi1 e1
      go_wp2_with fail
      go_roundw
      case rel =>
        refine ⟨j + 1, by go_num, by omega, ?_, ?_⟩
        · rw [← RS.out]
          exact CL.out.put (by omega) (by rw [List.length_set, RL.out]) (I1.out.set (D + j) y)
        · exact grown_set_one (a := ⟨g, D + j, none⟩) G.out rfl _
      case measure => simp [intOf]; omega
    · obtain rfl : c = j := by omega
      clear hlt
      go_wp2_with fail
      go_end0
      exact ⟨rfl, by rw [PV.out]; exact CL.out, G.out⟩
end Go.Proofs.Ytpknondccajinaa
end

section
/-
  Chapter 7, in the program: the pivot's row of any matrix.
-/
namespace Go.Proofs.Ytpknondccajinaa
set_option maxRecDepth 100000
open Go.RowKit

/-- What pivotRow answers. -/
def pvR (r c j t : Nat) (xs : List Int) : Int := if fstR c j xs (r - t) t = r then -1 else (fstR c j xs (r - t) t : Int)
set_option maxHeartbeats 1000000 in
theorem iPivR (r c t j N cap g : Nat) (q : Option Addr) (xs : List Int) (w : World) (hN : N = r * c) (hr : r ≤ 24) (hc : c ≤ 24) (ht : t ≤ r) (hj : j < c) (hg : Cel w q N cap g xs) :
    Calls Try.prog 41 #[.agg #[.int .i64 r, .int .i64 c, .slice q N cap], .int .i64 t, .int .i64 j] w (Gives (.int .i64 (pvR r c j t xs)) w) := by
  have hle : r * c ≤ 24 * 24 := Nat.mul_le_mul hr hc
  rw [← hN] at hle
  have hx := hg.len
  have hl : xs.length = r * c := by rw [hx, hN]
  have IX : Hid (∀ i, i < r → ∃ P : Nat, i * c + j = P ∧ P < N ∧ IntKind.i64.wrap ((i : Int) * (c : Int)) = (i : Int) * (c : Int) ∧ IntKind.i64.wrap ((i : Int) * (c : Int) + (j : Int)) = (P : Int)) := fun i hi => by
    have h1 : i * c + j < r * c := idx_lt hi hj
    have c1 : (i : Int) * (c : Int) = ((i * c : Nat) : Int) := (Int.natCast_mul _ _).symm
    refine ⟨i * c + j, rfl, by omega, IntWalk.i64_in _ (by rw [c1]; omega), ?_⟩
    rw [show (i : Int) * (c : Int) + (j : Int) = ((i * c + j : Nat) : Int) by rw [c1]; omega]
    exact IntWalk.i64_in _ (by omega)
  have BW : Hid (Below w.heap.size w (w.alloc (.cells #[.int .i64 r, .int .i64 c, .slice q N cap] 26))) := (Below.refl _ _).alloc (Nat.le_refl _) _
  have K0 : Hid (Blk3 (w.alloc (.cells #[.int .i64 r, .int .i64 c, .slice q N cap] 26)) w.heap.size 26 (.int .i64 r) (.int .i64 c) (.slice q N cap)) := Blk3.at_ _ _ _ _ rfl
  have CX : Hid (∀ i P, i < r → i * c + j = P → ∃ b o : Nat, q = some ⟨b, o, none⟩ ∧ (w.alloc (.cells #[.int .i64 r, .int .i64 c, .slice q N cap] 26)).cell? ⟨b, o + P, none⟩ = some (.int .i64 (mxC c xs i j))) := fun i P hi hP => by
    subst hP
    exact hg.rd.below BW.out _ (by rw [hl]; exact idx_lt hi hj)
  clear hN hx hl hg
  go_enter Try.func41, Try.ntmps41
  go_wp2_with fail
  generalize w.alloc (.cells #[.int .i64 r, .int .i64 c, .slice q N cap] 26) = W at BW K0 CX
  obtain ⟨p0, p1, p2, -, -, -⟩ := K0.out.all
  go_loopw [6, 7] (fun _ v7 wq => ∃ p : Nat, v7 = .int .i64 p ∧ t ≤ p ∧ p ≤ r ∧ (∀ i, t ≤ i → i < p → mxC c xs i j = 0) ∧ wq = W) (fun _ v7 _ => r - (intOf v7).toNat)
  case atStart => exact ⟨t, rfl, Nat.le_refl _, by omega, fun i h1 h2 => by omega, rfl⟩
  case round =>
    obtain ⟨p, rfl, hp1, hp2, hp0, rfl⟩ := hrel
    have P0 := Lib.hid hp0
    clear hp0
    by_cases hpn : p < r
    · obtain ⟨P, hP, hPN, u1, u2⟩ := IX.out p hpn
      have Pa : (0 : Int) ≤ (P : Int) := by omega
      have Pb : (P : Int) < (N : Int) := by omega
      obtain ⟨b, o, rfl, hcell⟩ := CX.out p P hpn hP
      obtain ⟨x, hxx⟩ : ∃ x, mxC c xs p j = x := ⟨_, rfl⟩
      have X := Lib.hid hxx
      rw [hxx] at hcell
      clear hxx hP
      by_cases h0 : x = 0
      · have n1 : (x != 0) = false := by simp [h0]
        have n2 : (x == 0) = true := by simp [h0]
        have P1 : Hid (∀ i, t ≤ i → i < p + 1 → mxC c xs i j = 0) := fun i h1 h2 => by
          rcases Nat.lt_or_ge i p with h3 | h3
          · exact P0.out i h1 h3
          · obtain rfl : i = p := by omega
            rw [X.out, h0]
        clear h0
        go_wp2_with fail
        go_roundw
        case rel => exact ⟨p + 1, by go_num, by omega, by omega, P1.out, trivial⟩
        case measure => simp [intOf]; omega
      · have n1 : (x != 0) = true := by simpa using h0
        have n2 : (x == 0) = false := by simpa using h0
        have PV : Hid (pvR r c j t xs = p) := by
          have e : fstR c j xs (r - t) t = p := fstR_eq hp1 (by omega) P0.out fun _ => by rw [X.out]; exact h0
          show pvR r c j t xs = p
          unfold pvR
          rw [e, if_neg (by omega)]
        clear h0
        go_wp2_with fail
        go_ret
        exact ⟨by rw [PV.out]; rfl, BW.out⟩
    · have hpe : p = r := by omega
      have PV : Hid (pvR r c j t xs = -1) := by
        show pvR r c j t xs = -1
        unfold pvR
        rw [if_pos ((fstR_eq hp1 (by omega) P0.out fun h => by omega).trans hpe)]
      clear hpe
      go_wp2_with fail
      go_ret
      exact ⟨by rw [PV.out]; rfl, BW.out⟩
end Go.Proofs.Ytpknondccajinaa
end
