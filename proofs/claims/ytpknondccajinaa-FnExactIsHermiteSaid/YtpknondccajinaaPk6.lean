/-
  Texts of this seat, joined: LatM · LatU · HmF · HmG · HmH · HmU · HmB · RgT · RgP · HmS
-/
import Derived.Test.YtpknondccajinaaProg
import Derived.OrdersHeld
import Derived.RegionTactic
import Derived.Deep.RegionHeld
import Derived.BigQuiet
import Derived.Deep.QuietTactic
import Derived.Test.YtpknondccajinaaPk1
import Derived.Test.YtpknondccajinaaPk2
import Derived.Test.YtpknondccajinaaPk3
import Derived.Test.YtpknondccajinaaPk4

section
/-
  Plain mathematics of chapter 12: lattices of rows; Hermite forms are unique. Nothing of a program is used.
-/
namespace Go.Proofs.Ytpknondccajinaa

/-- A row is a combination of the rows of A with whole coefficients. -/
def InL (r c : Nat) (A : Mx) (v : Nat → Int) : Prop := ∃ k : Nat → Int, ∀ j, j < c → v j = sumN r fun i => k i * A i j
/-- Each row of A is one of B. -/
def SubL (r s c : Nat) (A B : Mx) : Prop := ∀ i, i < r → InL s c B (A i)
section
variable {r s t c : Nat} {A B C : Mx} {u v : Nat → Int}
theorem InL.congr (h : InL r c A v) (e : ∀ j, j < c → u j = v j) : InL r c A u := by
  obtain ⟨k, hk⟩ := h
  exact ⟨k, fun j hj => (e j hj).trans (hk j hj)⟩
theorem sumN_unitL {n a : Nat} (ha : a < n) (f : Nat → Int) : (sumN n fun i => (if i = a then 1 else 0) * f i) = f a := by
  rw [sumN_one (a := a) ha (fun i hi hne => by rw [if_neg hne, Int.zero_mul]), if_pos rfl, Int.one_mul]
theorem InL.row {i : Nat} (hi : i < r) : InL r c A (A i) := ⟨fun k => if k = i then 1 else 0, fun j _ => (sumN_unitL hi fun k => A k j).symm⟩
theorem InL.zero : InL r c A fun _ => 0 := ⟨fun _ => 0, fun j _ => by rw [sumN_all_zero fun k _ => Int.zero_mul _]⟩
theorem InL.add (h : InL r c A u) (h' : InL r c A v) (x y : Int) : InL r c A fun j => x * u j + y * v j := by
  obtain ⟨k, hk⟩ := h
  obtain ⟨l, hl⟩ := h'
  refine ⟨fun i => x * k i + y * l i, fun j hj => ?_⟩
  show x * u j + y * v j = _
  rw [hk j hj, hl j hj, sumN_mul_left, sumN_mul_left, ← sumN_add]
  exact sumN_congr fun i _ => by grind
theorem InL.comb {V : Mx} {k : Nat → Int} : ∀ {m : Nat}, (∀ i, i < m → InL r c A (V i)) → InL r c A fun j => sumN m fun i => k i * V i j := by
  intro m
  induction m with
  | zero => intro _; exact InL.zero
  | succ m ih => intro h; exact ((ih fun i hi => h i (by omega)).add (h m (by omega)) 1 (k m)).congr fun j _ => by show (sumN m fun i => k i * V i j) + k m * V m j = _; rw [Int.one_mul]
theorem SubL.mem (h : SubL r s c A B) (hv : InL r c A v) : InL s c B v := by
  obtain ⟨k, hk⟩ := hv
  exact (InL.comb (k := k) h).congr hk
theorem SubL.refl (r c : Nat) (A : Mx) : SubL r r c A A := fun _ hi => InL.row hi
theorem SubL.trans (h : SubL r s c A B) (h' : SubL s t c B C) : SubL r t c A C := fun i hi => h'.mem (h i hi)
theorem SubL.congr (h : ∀ i j, i < r → j < c → A i j = B i j) : SubL r r c A B := fun i hi => (InL.row hi).congr fun j hj => h i j hi hj
end
/-- A is in Hermite form, with t pivots in the columns q. -/
structure HerP (r c : Nat) (A : Mx) (q : Nat → Nat) (t : Nat) : Prop where
  le : t ≤ r
  col : ∀ k, k < t → q k < c
  inc : ∀ k l, k < l → l < t → q k < q l
  pos : ∀ k, k < t → 0 < A k (q k)
  left : ∀ k j, k < t → j < q k → A k j = 0
  rest : ∀ i j, t ≤ i → i < r → j < c → A i j = 0
  above : ∀ k i, k < t → i < k → 0 ≤ A i (q k) ∧ A i (q k) < A k (q k)
section
variable {r s c t t' : Nat} {A B : Mx} {q q' : Nat → Nat} {v : Nat → Int}
theorem HerP.mono (h : HerP r c A q t) {k l : Nat} (hkl : k ≤ l) (hl : l < t) : q k ≤ q l := by
  rcases Nat.lt_or_ge k l with h1 | h1
  · exact Nat.le_of_lt (h.inc k l h1 hl)
  · obtain rfl : k = l := by omega
    exact Nat.le_refl _
theorem HerP.inj (h : HerP r c A q t) {k l : Nat} (hk : k < t) (hl : l < t) (e : q k = q l) : k = l := by
  rcases Nat.lt_trichotomy k l with h1 | h1 | h1
  · have := h.inc k l h1 hl; omega
  · exact h1
  · have := h.inc l k h1 hk; omega
theorem first_nz (k : Nat → Int) : ∀ m : Nat, (∀ i, i < m → k i = 0) ∨ ∃ a, a < m ∧ k a ≠ 0 ∧ ∀ i, i < a → k i = 0
  | 0 => .inl fun i hi => absurd hi (by omega)
  | m + 1 => by
    rcases first_nz k m with h | ⟨a, h1, h2, h3⟩
    · by_cases h0 : k m = 0
      · refine .inl fun i hi => ?_
        rcases Nat.lt_or_ge i m with h1 | h1
        · exact h i h1
        · obtain rfl : i = m := by omega
          exact h0
      · exact .inr ⟨m, by omega, h0, h⟩
    · exact .inr ⟨a, by omega, h2, h3⟩
/-- What comes first in a row of the lattice stands in a pivot's column, and the pivot divides it. -/
theorem HerP.lead (h : HerP r c A q t) (hv : InL r c A v) {l : Nat} (hl : l < c) (h0 : ∀ j, j < l → v j = 0) (hne : v l ≠ 0) : ∃ k, k < t ∧ q k = l ∧ A k l ∣ v l := by
  obtain ⟨k, hk⟩ := hv
  have hle := h.le
  rcases first_nz k t with hz | ⟨a, ha, hka, hz⟩
  · refine absurd ?_ hne
    rw [hk l hl]
    refine sumN_all_zero fun i hi => ?_
    rcases Nat.lt_or_ge i t with h1 | h1
    · rw [hz i h1, Int.zero_mul]
    · rw [h.rest i l h1 hi hl, Int.mul_zero]
  · have hv : ∀ j, j < c → j ≤ q a → v j = k a * A a j := fun j hj hja => by
      rw [hk j hj]
      refine sumN_one (a := a) (by omega) fun i hi hia => ?_
      rcases Nat.lt_trichotomy i a with h1 | h1 | h1
      · rw [hz i h1, Int.zero_mul]
      · exact absurd h1 hia
      · rcases Nat.lt_or_ge i t with h2 | h2
        · have := h.inc a i h1 h2
          rw [h.left i j h2 (by omega), Int.mul_zero]
        · rw [h.rest i j h2 hi hj, Int.mul_zero]
    have hqc := h.col a ha
    have hp := h.pos a ha
    rcases Nat.lt_trichotomy l (q a) with h1 | h1 | h1
    · refine absurd ?_ hne
      rw [hv l hl (by omega), h.left a l ha h1, Int.mul_zero]
    · refine ⟨a, ha, h1.symm, ?_⟩
      rw [hv l hl (by omega)]
      exact Int.dvd_mul_left _ _
    · have e := hv (q a) hqc (Nat.le_refl _)
      rw [h0 (q a) h1] at e
      rcases Int.mul_eq_zero.mp e.symm with h2 | h2
      · exact absurd h2 hka
      · omega
theorem HerP.row_lead (h : HerP r c A q t) (h' : HerP s c B q' t') (hs : SubL s r c B A) {k : Nat} (hk : k < t') : ∃ m, m < t ∧ q m = q' k ∧ A m (q' k) ∣ B k (q' k) :=
  h.lead (hs k (by have := h'.le; omega)) (h'.col k hk) (fun j hj => h'.left k j hk hj) (by have := h'.pos k hk; omega)
/-- The pivots stand in the same columns. -/
theorem HerP.cols (h : HerP r c A q t) (h' : HerP s c B q' t') (h1 : SubL s r c B A) (h2 : SubL r s c A B) : ∀ n k, k < n → (k < t ↔ k < t') ∧ (k < t → q k = q' k) := by
  intro n
  induction n with
  | zero => intro k hk; omega
  | succ n ih =>
    intro k hk
    rcases Nat.lt_or_ge k n with hkn | hkn
    · exact ih k hkn
    obtain rfl : k = n := by omega
    have fwd : k < t' → k < t ∧ q k ≤ q' k := fun hk' => by
      obtain ⟨m, hm, he, -⟩ := h.row_lead h' h1 hk'
      rcases Nat.lt_or_ge m k with hmk | hmk
      · obtain ⟨a1, a2⟩ := ih m hmk
        have := h'.inc m k hmk hk'
        have := a2 hm
        omega
      · exact ⟨by omega, by rw [← he]; exact h.mono hmk hm⟩
    have bwd : k < t → k < t' ∧ q' k ≤ q k := fun hk' => by
      obtain ⟨m, hm, he, -⟩ := h'.row_lead h h2 hk'
      rcases Nat.lt_or_ge m k with hmk | hmk
      · obtain ⟨a1, a2⟩ := ih m hmk
        have := h.inc m k hmk hk'
        have := a2 (a1.mpr hm)
        omega
      · exact ⟨by omega, by rw [← he]; exact h'.mono hmk hm⟩
    refine ⟨⟨fun h3 => (bwd h3).1, fun h3 => (fwd h3).1⟩, fun h3 => ?_⟩
    have e1 := (bwd h3)
    have e2 := (fwd e1.1)
    omega
theorem small_dvd {p x y : Int} (hx : 0 ≤ x ∧ x < p) (hy : 0 ≤ y ∧ y < p) (h : p ∣ x - y) : x = y := by
  obtain ⟨k, hk⟩ := h
  rcases Int.lt_trichotomy k 0 with h1 | h1 | h1
  · have := Int.mul_le_mul_of_nonneg_left (show k ≤ -1 by omega) (show 0 ≤ p by omega)
    omega
  · rw [h1, Int.mul_zero] at hk; omega
  · have := Int.mul_le_mul_of_nonneg_left (show 1 ≤ k by omega) (show 0 ≤ p by omega)
    omega
/-- One lattice has one Hermite form. -/
theorem HerP.uniq (h : HerP r c A q t) (h' : HerP r c B q' t') (h1 : SubL r r c B A) (h2 : SubL r r c A B) : t = t' ∧ ∀ i j, i < r → j < c → A i j = B i j := by
  have hc := h.cols h' h1 h2
  have et : t = t' := by
    rcases Nat.lt_trichotomy t t' with h3 | h3 | h3
    · have := (hc (t + 1) t (by omega)).1.mpr h3; omega
    · exact h3
    · have := (hc (t' + 1) t' (by omega)).1.mp h3; omega
  subst et
  have eq : ∀ k, k < t → q k = q' k := fun k hk => (hc (k + 1) k (by omega)).2 hk
  have hle := h.le
  have ep : ∀ k, k < t → A k (q k) = B k (q k) := fun k hk => by
    obtain ⟨m, hm, he, hd⟩ := h.row_lead h' h1 hk
    have e1 := h.inj hm hk (by rw [he, eq k hk])
    subst e1
    obtain ⟨m', hm', he', hd'⟩ := h'.row_lead h h2 hk
    have e2 := h'.inj hm' hk (by rw [he', eq m hk])
    subst e2
    have p1 := h.pos m' hk
    have p2 := h'.pos m' hk
    rw [← eq m' hk] at hd p2
    have l1 := Int.le_of_dvd p2 hd
    have l2 := Int.le_of_dvd p1 hd'
    omega
  refine ⟨rfl, fun i j hi hj => ?_⟩
  rcases Nat.lt_or_ge i t with hit | hit
  rotate_left
  · rw [h.rest i j hit hi hj, h'.rest i j hit hi hj]
  have hd : InL r c A fun j => 1 * A i j + (-1) * B i j := (InL.row hi).add (h1 i hi) 1 (-1)
  have key : ∀ n j, j < n → j < c → A i j - B i j = 0 := by
    intro n
    induction n with
    | zero => intro j hj; omega
    | succ n ih =>
      intro j hj hjc
      rcases Nat.lt_or_ge j n with h3 | h3
      · exact ih j h3 hjc
      obtain rfl : j = n := by omega
      refine Classical.byContradiction fun hne => ?_
      obtain ⟨k, hk, hq, hdv⟩ := h.lead hd hjc (fun j' hj' => by have := ih j' hj' (by omega); show 1 * A i j' + (-1) * B i j' = 0; omega) (by show 1 * A i j + (-1) * B i j ≠ 0; omega)
      have hdv : A k j ∣ A i j - B i j := by
        have e : A i j - B i j = 1 * A i j + (-1) * B i j := by omega
        rw [e]; exact hdv
      subst hq
      rcases Nat.lt_trichotomy k i with h4 | h4 | h4
      · have a1 := h.left i (q k) hit (h.inc k i h4 hit)
        have a2 := h'.left i (q k) hit (by rw [eq k hk]; exact h'.inc k i h4 hit)
        omega
      · subst h4
        have := ep k hk
        omega
      · have a1 := h.above k i hk h4
        have a2 := h'.above k i hk h4
        rw [← eq k hk, ← ep k hk] at a2
        have := small_dvd a1 a2 hdv
        omega
  have := key (j + 1) j (by omega) hj
  omega
end
end Go.Proofs.Ytpknondccajinaa
end

section
/-
  Plain mathematics of chapter 12: unimodular multiples span one lattice; the state of the work towards a Hermite form. Nothing of a program is used.
-/
namespace Go.Proofs.Ytpknondccajinaa

theorem SubL.mul (n c : Nat) (U M : Mx) : SubL n n c (mulX n U M) M := fun i _ => ⟨U i, fun _ _ => rfl⟩
/-- What has determinant 1 or -1 can be undone. -/
theorem SubL.unmul {n c : Nat} {U M : Mx} (h : det n U = 1 ∨ det n U = -1) : SubL n n c M (mulX n U M) := by
  rcases n with _ | m
  · intro i hi; omega
  intro i hi
  refine ⟨fun a => det (m + 1) U * adjX m U i a, fun j _ => ?_⟩
  have hd : det (m + 1) U * det (m + 1) U = 1 := by rcases h with h | h <;> rw [h] <;> rfl
  have e1 : (sumN (m + 1) fun a => det (m + 1) U * adjX m U i a * mulX (m + 1) U M a j) = sumN (m + 1) fun a => sumN (m + 1) fun b => det (m + 1) U * (adjX m U i a * U a b) * M b j := by
    refine sumN_congr fun a _ => ?_
    show det (m + 1) U * adjX m U i a * (sumN (m + 1) fun b => U a b * M b j) = _
    rw [sumN_mul_left]
    exact sumN_congr fun b _ => by grind
  rw [e1, sumN_swap]
  have e2 : (sumN (m + 1) fun b => sumN (m + 1) fun a => det (m + 1) U * (adjX m U i a * U a b) * M b j) = sumN (m + 1) fun b => det (m + 1) U * (if i = b then det (m + 1) U else 0) * M b j := by
    refine sumN_congr fun b hb => ?_
    rw [← sumN_mul, ← sumN_mul_left]
    have := adj_mul m U i b hi hb
    unfold mulX at this
    rw [this]
  rw [e2, sumN_one (a := i) hi (fun b _ hne => by rw [if_neg (Ne.symm hne), Int.mul_zero, Int.zero_mul]), if_pos rfl, hd, Int.one_mul]
/-- An operation on the rows of a product is one on those of its first factor. -/
theorem opX_mul {k : Int} {I J : Nat} {t : Int} {n : Nat} {U M A : Mx} {c : Nat} (hI : I < n) (hJ : J < n) (h : ∀ i j, i < n → j < c → mulX n U M i j = A i j) : ∀ i j, i < n → j < c → mulX n (opX k I J t U) M i j = opX k I J t A i j := fun i j hi hj => by
  unfold opX
  by_cases k0 : k = 0
  · rw [if_pos k0]
    show (sumN n fun a => (if k = 0 then (if i = I then U J a else if i = J then U I a else U i a) else if k = 1 then (if i = I then - U i a else U i a) else (if i = I then U i a + U J a * t else U i a)) * M a j) = _
    simp only [if_pos k0]
    by_cases e1 : i = I
    · simp only [if_pos e1]; exact h J j hJ hj
    · simp only [if_neg e1]
      by_cases e2 : i = J
      · simp only [if_pos e2]; exact h I j hI hj
      · simp only [if_neg e2]; exact h i j hi hj
  · rw [if_neg k0]
    show (sumN n fun a => (if k = 0 then (if i = I then U J a else if i = J then U I a else U i a) else if k = 1 then (if i = I then - U i a else U i a) else (if i = I then U i a + U J a * t else U i a)) * M a j) = _
    simp only [if_neg k0]
    by_cases k1 : k = 1
    · simp only [if_pos k1]
      by_cases e1 : i = I
      · simp only [if_pos e1]
        rw [← h i j hi hj]
        show _ = - sumN n fun a => U i a * M a j
        rw [show (- sumN n fun a => U i a * M a j) = (-1) * sumN n fun a => U i a * M a j by omega, sumN_mul_left]
        exact sumN_congr fun a _ => by grind
      · simp only [if_neg e1]; exact h i j hi hj
    · simp only [if_neg k1]
      by_cases e1 : i = I
      · simp only [if_pos e1]
        rw [← h i j hi hj, ← h J j hJ hj]
        show _ = (sumN n fun a => U i a * M a j) + (sumN n fun a => U J a * M a j) * t
        rw [sumN_mul, ← sumN_add]
        exact sumN_congr fun a _ => by grind
      · simp only [if_neg e1]; exact h i j hi hj
/-- The account: what is left is U times M, and U has determinant 1 or -1. -/
structure Acc (n c : Nat) (U M A : Mx) : Prop where
  mul : ∀ i j, i < n → j < c → mulX n U M i j = A i j
  uni : det n U = 1 ∨ det n U = -1
theorem Acc.start (n c : Nat) (M : Mx) : Acc n c idX M M := ⟨fun i j hi _ => by
  show (sumN n fun k => idX i k * M k j) = M i j
  rw [sumN_one (a := i) hi (fun k _ hne => by unfold idX; rw [if_neg (Ne.symm hne), Int.zero_mul])]
  unfold idX
  rw [if_pos rfl, Int.one_mul], .inl (det_id n)⟩
theorem Acc.op {n c : Nat} {U M A : Mx} (h : Acc n c U M A) {k : Int} {I J : Nat} {t : Int} (hk : k = 0 ∨ k = 1 ∨ k = 2) (hI : I < n) (hJ : J < n) (hIJ : k ≠ 1 → I ≠ J) : Acc n c (opX k I J t U) M (opX k I J t A) := by
  refine ⟨opX_mul hI hJ h.mul, ?_⟩
  rw [opX_det U hk hI hJ hIJ]
  have := h.uni
  unfold opSg
  split <;> omega
theorem Acc.congr {n c : Nat} {U V M A B : Mx} (h : Acc n c U M A) (hu : EqX n U V) (ha : ∀ i j, i < n → j < c → A i j = B i j) : Acc n c V M B := by
  refine ⟨fun i j hi hj => ?_, by rw [← det_congr hu]; exact h.uni⟩
  rw [← ha i j hi hj, ← h.mul i j hi hj]
  exact sumN_congr fun k hk => by rw [hu i k hi hk]
theorem Acc.sub {n c : Nat} {U M A : Mx} (h : Acc n c U M A) : SubL n n c A M ∧ SubL n n c M A := by
  have e1 : SubL n n c A (mulX n U M) := SubL.congr fun i j hi hj => (h.mul i j hi hj).symm
  have e2 : SubL n n c (mulX n U M) A := SubL.congr fun i j hi hj => h.mul i j hi hj
  exact ⟨e1.trans (SubL.mul n c U M), (SubL.unmul h.uni).trans e2⟩
/-- Two Hermite forms of one matrix, and of a unimodular multiple of it, are one. -/
theorem Acc.uniq {n c : Nat} {U U' M M' A A' : Mx} {q q' : Nat → Nat} {t t' : Nat} (h : Acc n c U M A) (h' : Acc n c U' M' A') (hA : HerP n c A q t) (hA' : HerP n c A' q' t') (h1 : SubL n n c M M') (h2 : SubL n n c M' M) : t = t' ∧ ∀ i j, i < n → j < c → A i j = A' i j :=
  hA.uniq hA' ((h'.sub.1.trans h2).trans h.sub.2) ((h.sub.1.trans h1).trans h'.sub.2)

/-- The work so far: t pivots in the columns ahead of column j. -/
structure HInv (r c : Nat) (A : Mx) (q : Nat → Nat) (t j : Nat) : Prop where
  le : t ≤ r
  jc : j ≤ c
  col : ∀ k, k < t → q k < j
  inc : ∀ k l, k < l → l < t → q k < q l
  pos : ∀ k, k < t → 0 < A k (q k)
  left : ∀ k b, k < t → b < q k → A k b = 0
  above : ∀ k i, k < t → i < k → 0 ≤ A i (q k) ∧ A i (q k) < A k (q k)
  low : ∀ i b, t ≤ i → i < r → b < j → A i b = 0
section
variable {r c t j : Nat} {A B : Mx} {q : Nat → Nat}
theorem HInv.start (r c : Nat) (A : Mx) (q : Nat → Nat) : HInv r c A q 0 0 := ⟨Nat.zero_le _, Nat.zero_le _, fun k hk => by omega, fun k l _ hl => by omega, fun k hk => by omega, fun k b hk => by omega, fun k i hk => by omega, fun i b _ _ hb => by omega⟩
/-- It speaks of the columns ahead alone. -/
theorem HInv.congr (h : HInv r c A q t j) (e : ∀ i b, i < r → b < j → B i b = A i b) : HInv r c B q t j := by
  have hle := h.le
  refine ⟨h.le, h.jc, h.col, h.inc, fun k hk => ?_, fun k b hk hb => ?_, fun k i hk hi => ?_, fun i b h1 h2 h3 => ?_⟩
  · rw [e k _ (by omega) (h.col k hk)]; exact h.pos k hk
  · have := h.col k hk
    rw [e k b (by omega) (by omega)]; exact h.left k b hk hb
  · rw [e i _ (by omega) (h.col k hk), e k _ (by omega) (h.col k hk)]; exact h.above k i hk hi
  · rw [e i b h2 h3]; exact h.low i b h1 h2 h3
theorem HInv.skip (h : HInv r c A q t j) (hj : j < c) (hz : ∀ i, t ≤ i → i < r → A i j = 0) : HInv r c A q t (j + 1) := by
  refine ⟨h.le, hj, fun k hk => by have := h.col k hk; omega, h.inc, h.pos, h.left, h.above, fun i b h1 h2 h3 => ?_⟩
  rcases Nat.lt_or_ge b j with h4 | h4
  · exact h.low i b h1 h2 h4
  · obtain rfl : b = j := by omega
    exact hz i h1 h2
def putQ (q : Nat → Nat) (t j : Nat) : Nat → Nat := fun k => if k = t then j else q k
theorem HInv.put (h : HInv r c A q t j) (hj : j < c) (ht : t < r) (hp : 0 < A t j) (hz : ∀ i, t < i → i < r → A i j = 0) (ha : ∀ i, i < t → 0 ≤ A i j ∧ A i j < A t j) : HInv r c A (putQ q t j) (t + 1) (j + 1) := by
  have q1 : ∀ k, k < t → putQ q t j k = q k := fun k hk => if_neg (by omega)
  have q2 : putQ q t j t = j := if_pos rfl
  have sp : ∀ k, k < t + 1 → k < t ∨ k = t := fun k hk => by omega
  refine ⟨ht, hj, fun k hk => ?_, fun k l hkl hl => ?_, fun k hk => ?_, fun k b hk hb => ?_, fun k i hk hi => ?_, fun i b h1 h2 h3 => ?_⟩
  · rcases sp k hk with h1 | rfl
    · rw [q1 k h1]; have := h.col k h1; omega
    · rw [q2]; omega
  · rcases sp l hl with h1 | rfl
    · rw [q1 l h1, q1 k (by omega)]; exact h.inc k l hkl h1
    · rw [q2, q1 k hkl]; exact h.col k hkl
  · rcases sp k hk with h1 | rfl
    · rw [q1 k h1]; exact h.pos k h1
    · rw [q2]; exact hp
  · rcases sp k hk with h1 | rfl
    · rw [q1 k h1] at hb; exact h.left k b h1 hb
    · rw [q2] at hb; exact h.low k b (Nat.le_refl _) ht hb
  · rcases sp k hk with h1 | rfl
    · rw [q1 k h1]; exact h.above k i h1 hi
    · rw [q2]; exact ha i hi
  · rcases Nat.lt_or_ge b j with h4 | h4
    · exact h.low i b (by omega) h2 h4
    · obtain rfl : b = j := by omega
      exact hz i (by omega) h2
theorem HInv.done (h : HInv r c A q t j) (he : t = r ∨ j = c) : HerP r c A q t :=
  ⟨h.le, fun k hk => by have := h.col k hk; have := h.jc; omega, h.inc, h.pos, h.left, fun i b h1 h2 h3 => by
    rcases he with e | e
    · omega
    · exact h.low i b h1 h2 (by omega), h.above⟩
/-- Adding multiples of a row from t on to another row keeps the columns ahead. -/
theorem HInv.opAdd (h : HInv r c A q t j) {I J : Nat} {z : Int} (hJ : t ≤ J) (hJr : J < r) : HInv r c (opX 2 I J z A) q t j := h.congr fun i b hi hb => by
  unfold opX
  rw [if_neg (by decide), if_neg (by decide)]
  split
  · rw [h.low J b hJ hJr hb, Int.zero_mul, Int.add_zero]
  · rfl
theorem HInv.opSwap (h : HInv r c A q t j) {I J : Nat} {z : Int} (hI : t ≤ I) (hIr : I < r) (hJ : t ≤ J) (hJr : J < r) : HInv r c (opX 0 I J z A) q t j := h.congr fun i b hi hb => by
  unfold opX
  rw [if_pos rfl]
  split
  · rename_i e; rw [h.low J b hJ hJr hb, e, h.low I b hI hIr hb]
  · split
    · rename_i e; rw [h.low I b hI hIr hb, e, h.low J b hJ hJr hb]
    · rfl
theorem HInv.opNeg (h : HInv r c A q t j) {I J : Nat} {z : Int} (hI : t ≤ I) (hIr : I < r) : HInv r c (opX 1 I J z A) q t j := h.congr fun i b hi hb => by
  unfold opX
  rw [if_neg (by decide), if_pos rfl]
  split
  · rename_i e; rw [e, h.low I b hI hIr hb]; rfl
  · rfl
end
/-- What a quotient rounded down leaves. -/
theorem floor_left {x y q m : Int} (he : x = q * y + m) (hm : (0 ≤ m ∧ m < y) ∨ (y < m ∧ m ≤ 0)) : x + y * (-q) = m ∧ m.natAbs < y.natAbs := by
  refine ⟨?_, by omega⟩
  rw [he, Int.mul_neg, Int.mul_comm y q]; omega
end Go.Proofs.Ytpknondccajinaa
end

section
/-
  Plain mathematics of chapter 12: the work towards a Hermite form, on lists, with marks for what is beyond the limit. Nothing of a program is used.
-/
namespace Go.Proofs.Ytpknondccajinaa

/-! ### Marks stay -/
def MkOr (xs : List Int) : Prop := ∀ p, xs.getD p 0 = badN ∨ NumP (xs.getD p 0)
theorem getD_out {xs : List Int} {p : Nat} (h : xs.length ≤ p) : xs.getD p 0 = 0 := by simp [List.getD, h]
theorem MkOr.of_nums {xs : List Int} (h : nums xs = true) : MkOr xs := fun p => .inr (nums_def h p)
theorem MkOr.nums {xs : List Int} (h : ∀ p, p < xs.length → NumP (xs.getD p 0)) : nums xs = true := nums_true h
theorem mulB_or (a b : Int) : mulB a b = badN ∨ NumP (mulB a b) := by
  unfold mulB
  split
  · exact .inl rfl
  · exact fitB_or _
theorem addB_or (a b : Int) : addB a b = badN ∨ NumP (addB a b) := by
  unfold addB
  split
  · exact .inl rfl
  · exact fitB_or _
theorem MkOr.op {k : Int} {I J : Nat} {z : Int} {C : Nat} {xs : List Int} (h : MkOr xs) : MkOr (opL k I J z C xs) := fun p => by
  rcases Nat.lt_or_ge p xs.length with hp | hp
  · rw [opL_getD hp]
    unfold opAt
    split
    · split
      · exact h _
      · split
        · exact h _
        · exact h _
    · split
      · split
        · exact mulB_or _ _
        · exact h _
      · split
        · exact addB_or _ _
        · exact h _
  · rw [getD_out (by rw [opL_length]; exact hp)]
    exact .inr (by decide)
theorem mulB_keeps {a b : Int} (h : NumP (mulB a b)) : a ≠ badN := fun e => by
  unfold mulB at h
  rw [if_pos (.inl e)] at h
  exact bad_not h
theorem addB_keeps {a b : Int} (h : NumP (addB a b)) : a ≠ badN := fun e => by
  unfold addB at h
  rw [if_pos (.inl e)] at h
  exact bad_not h
/-- Where all are numbers behind an operation, all were ahead of it. -/
theorem nums_back {k : Int} {I J : Nat} {z : Int} {R C : Nat} {xs : List Int} (h : MkOr xs) (hl : xs.length = R * C) (hI : I < R) (hJ : J < R) (hn : nums (opL k I J z C xs) = true) : nums xs = true := by
  have at_ : ∀ p, p < xs.length → NumP (opAt k I J z C xs p) := fun p hp => by
    have := nums_at hn (j := p) (by rw [opL_length]; exact hp)
    rwa [opL_getD hp] at this
  refine nums_true fun p hp => ?_
  have hC : 0 < C := by
    rcases Nat.eq_zero_or_pos C with e | e
    · subst e; omega
    · exact e
  have hm : p % C < C := Nat.mod_lt p hC
  have ep : p / C * C + p % C = p := Nat.div_add_mod' p C
  have h1 := at_ p hp
  unfold opAt at h1
  by_cases k0 : k = 0
  · rw [if_pos k0] at h1
    by_cases e1 : p / C = I
    · have hq : J * C + p % C < xs.length := by rw [hl]; exact idx_lt hJ hm
      have h2 := at_ _ hq
      unfold opAt at h2
      rw [if_pos k0, idx_div hm, idx_mod hm] at h2
      by_cases e2 : J = I
      · rw [if_pos e2, e2, ← e1, ep] at h2; exact h2
      · rw [if_neg e2, if_pos rfl, ← e1, ep] at h2; exact h2
    · by_cases e2 : p / C = J
      · have hq : I * C + p % C < xs.length := by rw [hl]; exact idx_lt hI hm
        have h2 := at_ _ hq
        unfold opAt at h2
        rw [if_pos k0, idx_div hm, idx_mod hm, if_pos rfl, ← e2, ep] at h2
        exact h2
      · rw [if_neg e1, if_neg e2] at h1; exact h1
  · rw [if_neg k0] at h1
    by_cases k1 : k = 1
    · rw [if_pos k1] at h1
      split at h1
      · exact (h p).resolve_left (mulB_keeps h1)
      · exact h1
    · rw [if_neg k1] at h1
      split at h1
      · exact (h p).resolve_left (addB_keeps h1)
      · exact h1
/-- Without marks it is the operation. -/
theorem opL_mx {k : Int} {I J : Nat} {z : Int} {R C : Nat} {xs : List Int} (hk : k = 0 ∨ k = 1 ∨ k = 2) (hl : xs.length = R * C) (hx : nums xs = true) (hI : I < R) (hz : NumP z) (hn : nums (opL k I J z C xs) = true) : ∀ i j, i < R → j < C → mxC C (opL k I J z C xs) i j = opX k I J z (mxC C xs) i j := fun i j hi hj => by
  show (opL k I J z C xs).getD (i * C + j) 0 = _
  rw [opL_raw hk hl hx hI hz hn _ (idx_lt hi hj), rwAt_mx hj]
  rfl

/-! ### The state: the cells and the account's cells -/
abbrev HSt := List Int × List Int
def op2 (R C : Nat) (k : Int) (I J : Nat) (z : Int) (s : HSt) : HSt := (opL k I J z C s.1, opL k I J z R s.2)
def okS (s : HSt) : Bool := nums s.1 && nums s.2
def celS (C : Nat) (s : HSt) (i j : Nat) : Int := mxC C s.1 i j
/-- What is always so. -/
structure Siz (R C : Nat) (s : HSt) : Prop where
  l1 : s.1.length = R * C
  l2 : s.2.length = R * R
  m1 : MkOr s.1
  m2 : MkOr s.2
theorem Siz.op {R C : Nat} {s : HSt} (h : Siz R C s) (k : Int) (I J : Nat) (z : Int) : Siz R C (op2 R C k I J z s) :=
  ⟨by show (opL k I J z C s.1).length = _; rw [opL_length]; exact h.l1, by show (opL k I J z R s.2).length = _; rw [opL_length]; exact h.l2, h.m1.op, h.m2.op⟩
theorem okS_and {s : HSt} (h : okS s = true) : nums s.1 = true ∧ nums s.2 = true := by
  unfold okS at h
  rwa [Bool.and_eq_true] at h
theorem okS_back {R C : Nat} {s : HSt} (h : Siz R C s) {k : Int} {I J : Nat} {z : Int} (hI : I < R) (hJ : J < R) (ho : okS (op2 R C k I J z s) = true) : okS s = true := by
  obtain ⟨a, b⟩ := okS_and ho
  unfold okS
  rw [nums_back h.m1 h.l1 hI hJ a, nums_back h.m2 h.l2 hI hJ b]; rfl
/-- The account holds, and the numbers are within the limit. -/
structure Fin2 (R C : Nat) (M : Mx) (s : HSt) : Prop where
  siz : Siz R C s
  ok : okS s = true
  acc : Acc R C (mxC R s.2) M (mxC C s.1)
theorem Fin2.op {R C : Nat} {M : Mx} {s : HSt} (h : Fin2 R C M s) {k : Int} {I J : Nat} {z : Int} (hk : k = 0 ∨ k = 1 ∨ k = 2) (hI : I < R) (hJ : J < R) (hIJ : k ≠ 1 → I ≠ J) (hz : NumP z) (ho : okS (op2 R C k I J z s) = true) :
    Fin2 R C M (op2 R C k I J z s) ∧ ∀ i j, i < R → j < C → celS C (op2 R C k I J z s) i j = opX k I J z (mxC C s.1) i j := by
  obtain ⟨a, b⟩ := okS_and ho
  obtain ⟨a0, b0⟩ := okS_and h.ok
  have e1 := opL_mx hk h.siz.l1 a0 hI hz a
  have e2 := opL_mx hk h.siz.l2 b0 hI hz b
  exact ⟨⟨h.siz.op k I J z, ho, (h.acc.op hk hI hJ hIJ).congr (fun i j hi hj => (e2 i j hi hj).symm) fun i j hi hj => (e1 i j hi hj).symm⟩, e1⟩
theorem Fin2.num {R C : Nat} {M : Mx} {s : HSt} (h : Fin2 R C M s) (i j : Nat) : NumP (celS C s i j) := nums_def (okS_and h.ok).1 _
theorem quot_left {x y : Int} (hy : y ≠ 0) : x + y * (-(x / y)) = x % y ∧ 0 ≤ x % y ∧ x % y < (y.natAbs : Int) := by
  refine ⟨?_, Int.emod_nonneg x hy, Int.emod_lt x hy⟩
  rw [Int.emod_def, Int.mul_neg]; rfl
theorem quot_num {x y : Int} (hx : NumP x) (hy : y ≠ 0) : NumP (-(x / y)) := by
  unfold NumP at *
  obtain ⟨q1, q2, q3⟩ := quot_left (x := x) hy
  have hb : ((x / y).natAbs : Int) ≤ 400000000 := by
    have := Int.natAbs_ediv_le_natAbs x y
    omega
  omega

/-! ### The row that is least in a column -/
def leastF (f : Nat → Int) (t : Nat) : Nat → Int
  | 0 => -1
  | n + 1 => if f (t + n) ≠ 0 ∧ (leastF f t n < 0 ∨ (f (t + n)).natAbs < (f (leastF f t n).toNat).natAbs) then ((t + n : Nat) : Int) else leastF f t n
theorem leastF_says (f : Nat → Int) (t : Nat) : ∀ n : Nat, (leastF f t n = -1 ∧ ∀ i, t ≤ i → i < t + n → f i = 0) ∨ ∃ p : Nat, leastF f t n = (p : Int) ∧ t ≤ p ∧ p < t + n ∧ f p ≠ 0 ∧ ∀ i, t ≤ i → i < t + n → f i ≠ 0 → (f p).natAbs ≤ (f i).natAbs
  | 0 => .inl ⟨rfl, fun i h1 h2 => by omega⟩
  | n + 1 => by
    have sp : ∀ i, t ≤ i → i < t + (n + 1) → i < t + n ∨ i = t + n := fun i _ _ => by omega
    have step : leastF f t (n + 1) = if f (t + n) ≠ 0 ∧ (leastF f t n < 0 ∨ (f (t + n)).natAbs < (f (leastF f t n).toNat).natAbs) then ((t + n : Nat) : Int) else leastF f t n := rfl
    rcases leastF_says f t n with ⟨h1, h2⟩ | ⟨p, h1, h2, h3, h4, h5⟩
    · by_cases h0 : f (t + n) = 0
      · refine .inl ⟨by rw [step, if_neg (fun h => h.1 h0), h1], fun i hi hi2 => ?_⟩
        rcases sp i hi hi2 with h | rfl
        · exact h2 i hi h
        · exact h0
      · refine .inr ⟨t + n, by rw [step, if_pos ⟨h0, .inl (by omega)⟩], by omega, by omega, h0, fun i hi hi2 hne => ?_⟩
        rcases sp i hi hi2 with h | rfl
        · exact absurd (h2 i hi h) hne
        · exact Nat.le_refl _
    · have ep : (leastF f t n).toNat = p := by omega
      rw [ep] at step
      by_cases hc : f (t + n) ≠ 0 ∧ (leastF f t n < 0 ∨ (f (t + n)).natAbs < (f p).natAbs)
      · refine .inr ⟨t + n, by rw [step, if_pos hc], by omega, by omega, hc.1, fun i hi hi2 hne => ?_⟩
        have hlt : (f (t + n)).natAbs < (f p).natAbs := by
          rcases hc.2 with h | h
          · omega
          · exact h
        rcases sp i hi hi2 with h | rfl
        · have := h5 i hi h hne; omega
        · exact Nat.le_refl _
      · refine .inr ⟨p, by rw [step, if_neg hc, h1], h2, by omega, h4, fun i hi hi2 hne => ?_⟩
        rcases sp i hi hi2 with h | rfl
        · exact h5 i hi h hne
        · exact Nat.le_of_not_lt fun hlt => hc ⟨hne, .inr hlt⟩

/-! ### One round -/
def rndF (R C p j t : Nat) (s : HSt) : Nat → HSt
  | 0 => s
  | n + 1 => if t + n ≠ p ∧ celS C (rndF R C p j t s n) (t + n) j ≠ 0 then op2 R C 2 (t + n) p (-(celS C (rndF R C p j t s n) (t + n) j / celS C (rndF R C p j t s n) p j)) (rndF R C p j t s n) else rndF R C p j t s n
theorem rndF_siz {R C p j t : Nat} {s : HSt} (h : Siz R C s) : ∀ n, Siz R C (rndF R C p j t s n)
  | 0 => h
  | n + 1 => by
    show Siz R C (if _ then _ else _)
    split
    · exact (rndF_siz h n).op _ _ _ _
    · exact rndF_siz h n
theorem rndF_back {R C p j t : Nat} {s : HSt} (h : Siz R C s) (hp : p < R) {n : Nat} (hn : t + n < R) (ho : okS (rndF R C p j t s (n + 1)) = true) : okS (rndF R C p j t s n) = true := by
  change okS (if _ then _ else _) = true at ho
  split at ho
  · exact okS_back (rndF_siz h n) hn hp ho
  · exact ho
/-- What a round does: rows behind p are reduced by row p; all else of the column, and the columns ahead, stay. -/
theorem rndF_says {R C p j t : Nat} {M : Mx} {s : HSt} {q : Nat → Nat} (hF : Fin2 R C M s) (hI : HInv R C (mxC C s.1) q t j) (hj : j < C) (hp : p < R) (htp : t ≤ p) (hpz : celS C s p j ≠ 0) : ∀ n, t + n ≤ R → okS (rndF R C p j t s n) = true →
    Fin2 R C M (rndF R C p j t s n) ∧ HInv R C (mxC C (rndF R C p j t s n).1) q t j ∧ celS C (rndF R C p j t s n) p j = celS C s p j ∧ (∀ i, i < R → t + n ≤ i → celS C (rndF R C p j t s n) i j = celS C s i j) ∧ (∀ i, t ≤ i → i < t + n → i ≠ p → 0 ≤ celS C (rndF R C p j t s n) i j ∧ celS C (rndF R C p j t s n) i j < ((celS C s p j).natAbs : Int))
  | 0, _, _ => ⟨hF, hI, rfl, fun _ _ _ => rfl, fun i h1 h2 => by omega⟩
  | n + 1, hn, ho => by
    obtain ⟨g1, g2, g3, g4, g5⟩ := rndF_says hF hI hj hp htp hpz n (by omega) (rndF_back hF.siz hp (by omega) ho)
    by_cases hc : t + n ≠ p ∧ celS C (rndF R C p j t s n) (t + n) j ≠ 0
    · have es : rndF R C p j t s (n + 1) = op2 R C 2 (t + n) p (-(celS C (rndF R C p j t s n) (t + n) j / celS C (rndF R C p j t s n) p j)) (rndF R C p j t s n) := if_pos hc
      rw [es] at ho ⊢
      have hy : celS C (rndF R C p j t s n) p j ≠ 0 := by rw [g3]; exact hpz
      obtain ⟨k1, k2⟩ := g1.op (.inr (.inr rfl)) (by omega) hp (fun _ => hc.1) (quot_num (g1.num _ _) hy) ho
      have ql := quot_left (x := celS C (rndF R C p j t s n) (t + n) j) hy
      have ce : ∀ i b, i < R → b < C → i ≠ t + n → celS C (op2 R C 2 (t + n) p (-(celS C (rndF R C p j t s n) (t + n) j / celS C (rndF R C p j t s n) p j)) (rndF R C p j t s n)) i b = celS C (rndF R C p j t s n) i b := fun i b hi hb hne => by
        rw [k2 i b hi hb]
        unfold opX
        rw [if_neg (by decide), if_neg (by decide), if_neg hne]; rfl
      have cn : celS C (op2 R C 2 (t + n) p (-(celS C (rndF R C p j t s n) (t + n) j / celS C (rndF R C p j t s n) p j)) (rndF R C p j t s n)) (t + n) j = celS C (rndF R C p j t s n) (t + n) j % celS C (rndF R C p j t s n) p j := by
        rw [k2 (t + n) j (by omega) hj, ← ql.1]
        unfold opX
        rw [if_neg (by decide), if_neg (by decide), if_pos rfl]; rfl
      refine ⟨k1, (g2.opAdd htp hp).congr fun i b hi hb => k2 i b hi (by omega), by rw [ce p j hp hj (Ne.symm hc.1)]; exact g3, fun i hi h1 => by rw [ce i j hi hj (by omega)]; exact g4 i hi (by omega), fun i h1 h2 h3 => ?_⟩
      rcases Nat.lt_or_ge i (t + n) with h4 | h4
      · rw [ce i j (by omega) hj (by omega)]; exact g5 i h1 h4 h3
      · obtain rfl : i = t + n := by omega
        rw [cn, g3]
        rw [g3] at ql
        exact ql.2
    · have es : rndF R C p j t s (n + 1) = rndF R C p j t s n := if_neg hc
      rw [es]
      refine ⟨g1, g2, g3, fun i hi h1 => g4 i hi (by omega), fun i h1 h2 h3 => ?_⟩
      rcases Nat.lt_or_ge i (t + n) with h4 | h4
      · exact g5 i h1 h4 h3
      · obtain rfl : i = t + n := by omega
        have h0 : celS C (rndF R C p j t s n) (t + n) j = 0 := Classical.byContradiction fun h => hc ⟨h3, h⟩
        rw [h0]
        exact ⟨Int.le_refl _, by omega⟩
end Go.Proofs.Ytpknondccajinaa
end

section
/-
  Plain mathematics of chapter 12: the whole of the work towards a Hermite form, and what it ends in. Nothing of a program is used.
-/
namespace Go.Proofs.Ytpknondccajinaa

/-! ### The rounds of a column -/
def aloneB (R C p j t : Nat) (s : HSt) : Bool := (List.range R).all fun i => decide (i < t ∨ i = p ∨ celS C s i j = 0)
theorem aloneB_says {R C p j t : Nat} {s : HSt} (h : aloneB R C p j t s = true) {i : Nat} (hi : i < R) (ht : t ≤ i) (hne : i ≠ p) : celS C s i j = 0 := by
  unfold aloneB at h
  rw [List.all_eq_true] at h
  have := h i (List.mem_range.mpr hi)
  rw [decide_eq_true_eq] at this
  rcases this with h1 | h1 | h1
  · omega
  · exact absurd h1 hne
  · exact h1
theorem aloneB_true {R C p j t : Nat} {s : HSt} (h : ∀ i, i < R → t ≤ i → i ≠ p → celS C s i j = 0) : aloneB R C p j t s = true := by
  unfold aloneB
  rw [List.all_eq_true]
  intro i hi
  rw [decide_eq_true_eq]
  rcases Nat.lt_or_ge i t with h1 | h1
  · exact .inl h1
  · by_cases h2 : i = p
    · exact .inr (.inl h2)
    · exact .inr (.inr (h i (List.mem_range.mp hi) h1 h2))
theorem aloneB_false {R C p j t : Nat} {s : HSt} {i : Nat} (hi : i < R) (ht : t ≤ i) (hne : i ≠ p) (hz : celS C s i j ≠ 0) : aloneB R C p j t s = false := by
  cases h : aloneB R C p j t s with
  | false => rfl
  | true => exact absurd (aloneB_says h hi ht hne) hz
def leastS (R C j t : Nat) (s : HSt) : Int := leastF (fun i => celS C s i j) t (R - t)
/-- A row that is least. -/
def LeastP (R C j t : Nat) (s : HSt) (p : Nat) : Prop := leastS R C j t s = (p : Int) ∧ t ≤ p ∧ p < R ∧ celS C s p j ≠ 0 ∧ ∀ i, t ≤ i → i < R → celS C s i j ≠ 0 → (celS C s p j).natAbs ≤ (celS C s i j).natAbs
theorem leastS_says (R C j t : Nat) (s : HSt) (ht : t ≤ R) : (leastS R C j t s = -1 ∧ ∀ i, t ≤ i → i < R → celS C s i j = 0) ∨ ∃ p, LeastP R C j t s p := by
  rcases leastF_says (fun i => celS C s i j) t (R - t) with ⟨h1, h2⟩ | ⟨p, h1, h2, h3, h4, h5⟩
  · exact .inl ⟨h1, fun i a b => h2 i a (by omega)⟩
  · exact .inr ⟨p, h1, h2, by omega, h4, fun i a b hne => h5 i a (by omega) hne⟩
def rndA (R C p j t : Nat) (s : HSt) : HSt := rndF R C p j t s (R - t)
def loopF (R C j t : Nat) : Nat → HSt → Nat → Option (HSt × Nat)
  | 0, _, _ => none
  | f + 1, s, p => if aloneB R C p j t s = true then some (s, p) else if okS (rndA R C p j t s) = true then loopF R C j t f (rndA R C p j t s) (leastS R C j t (rndA R C p j t s)).toNat else none
/-- There is enough left to count. -/
def Fuel (R C j t f : Nat) (s : HSt) (p : Nat) : Prop := 1 ≤ f ∧ (aloneB R C p j t s = true ∨ (celS C s p j).natAbs < f)
theorem Fuel.start (R C j t : Nat) (s : HSt) (p : Nat) : Fuel R C j t ((celS C s p j).natAbs + 1) s p := ⟨by omega, .inr (by omega)⟩
theorem loopF_alone {R C j t f : Nat} {s : HSt} {p : Nat} (hf : 1 ≤ f) (h : aloneB R C p j t s = true) : loopF R C j t f s p = some (s, p) := by
  obtain ⟨f, rfl⟩ : ∃ g, f = g + 1 := ⟨f - 1, by omega⟩
  exact if_pos h
theorem loopF_bad {R C j t f : Nat} {s : HSt} {p : Nat} (h : aloneB R C p j t s = false) (ho : okS (rndA R C p j t s) = false) : loopF R C j t f s p = none := by
  rcases f with _ | f
  · rfl
  · show (if _ then _ else _) = _
    rw [if_neg (by rw [h]; decide), if_neg (by rw [ho]; decide)]
theorem loopF_step {R C j t f : Nat} {s : HSt} {p p' : Nat} (h : aloneB R C p j t s = false) (ho : okS (rndA R C p j t s) = true) (hp : leastS R C j t (rndA R C p j t s) = (p' : Int)) : loopF R C j t (f + 1) s p = loopF R C j t f (rndA R C p j t s) p' := by
  show (if _ then _ else _) = _
  rw [if_neg (by rw [h]; decide), if_pos ho, hp]; rfl
section
variable {R C j t : Nat} {M : Mx} {s : HSt} {q : Nat → Nat}
/-- One round more. -/
theorem loop_next {p f : Nat} (hF : Fin2 R C M s) (hI : HInv R C (mxC C s.1) q t j) (hj : j < C) (hp : p < R) (htp : t ≤ p) (hpz : celS C s p j ≠ 0) (ha : aloneB R C p j t s = false) (hfu : Fuel R C j t (f + 1) s p) (ho : okS (rndA R C p j t s) = true) :
    Fin2 R C M (rndA R C p j t s) ∧ HInv R C (mxC C (rndA R C p j t s).1) q t j ∧ ∃ p', LeastP R C j t (rndA R C p j t s) p' ∧ Fuel R C j t f (rndA R C p j t s) p' := by
  obtain ⟨g1, g2, g3, -, g5⟩ := rndF_says hF hI hj hp htp hpz (R - t) (by omega) ho
  change Fin2 R C M (rndA R C p j t s) at g1
  change celS C (rndA R C p j t s) p j = _ at g3
  have g5 : ∀ i, t ≤ i → i < R → i ≠ p → 0 ≤ celS C (rndA R C p j t s) i j ∧ celS C (rndA R C p j t s) i j < ((celS C s p j).natAbs : Int) := fun i h1 h2 h3 => g5 i h1 (by omega) h3
  refine ⟨g1, g2, ?_⟩
  have hfu : (celS C s p j).natAbs < f + 1 := by
    rcases hfu.2 with h | h
    · rw [h] at ha; cases ha
    · exact h
  generalize rndA R C p j t s = u at g1 g3 g5 ⊢
  rcases leastS_says R C j t u (by omega) with ⟨h1, h2⟩ | ⟨p', hL⟩
  · exact absurd (h2 p htp hp) (by rw [g3]; exact hpz)
  · refine ⟨p', hL, by omega, ?_⟩
    obtain ⟨-, l2, l3, l4, l5⟩ := hL
    rcases Bool.eq_false_or_eq_true (aloneB R C p' j t u) with hb | hb
    · exact .inl hb
    · refine .inr ?_
      by_cases e : p' = p
      · subst e
        refine absurd hb ?_
        rw [aloneB_true fun i hi hti hne => Classical.byContradiction fun hz => ?_]
        · decide
        · have a := g5 i hti hi hne
          have b := l5 i hti hi hz
          rw [g3] at b
          omega
      · have a := g5 p' l2 l3 e
        omega
theorem loopF_says (hj : j < C) : ∀ (f : Nat) (s : HSt) (p : Nat) {s' : HSt} {p' : Nat}, Fin2 R C M s → HInv R C (mxC C s.1) q t j → p < R → t ≤ p → celS C s p j ≠ 0 → loopF R C j t f s p = some (s', p') →
    Fin2 R C M s' ∧ HInv R C (mxC C s'.1) q t j ∧ p' < R ∧ t ≤ p' ∧ celS C s' p' j ≠ 0 ∧ aloneB R C p' j t s' = true
  | 0, _, _, _, _, _, _, _, _, _, h => by cases h
  | f + 1, s, p, s', p', hF, hI, hp, htp, hpz, h => by
    rcases Bool.eq_false_or_eq_true (aloneB R C p j t s) with ha | ha
    · rw [loopF_alone (by omega) ha] at h
      cases h
      exact ⟨hF, hI, hp, htp, hpz, ha⟩
    · rcases Bool.eq_false_or_eq_true (okS (rndA R C p j t s)) with ho | ho
      · obtain ⟨g1, g2, g3, -, -⟩ := rndF_says hF hI hj hp htp hpz (R - t) (by omega) ho
        rcases leastS_says R C j t (rndA R C p j t s) (by omega) with ⟨h1, h2⟩ | ⟨p2, hL⟩
        · exact absurd (h2 p htp hp) (by show celS C (rndF R C p j t s (R - t)) p j ≠ 0; rw [g3]; exact hpz)
        · rw [loopF_step ha ho hL.1] at h
          exact loopF_says hj f (rndA R C p j t s) p2 g1 g2 hL.2.2.1 hL.2.1 hL.2.2.2.1 h
      · rw [loopF_bad ha ho] at h; cases h

/-! ### The pivot's row -/
def swS (R C p t : Nat) (s : HSt) : HSt := if p ≠ t then op2 R C 0 p t 0 s else s
def ngS (R C j t : Nat) (s : HSt) : HSt := if celS C s t j < 0 then op2 R C 1 t t 0 s else s
def upF (R C j t : Nat) (s : HSt) : Nat → HSt
  | 0 => s
  | n + 1 => op2 R C 2 n t (-(celS C (upF R C j t s n) n j / celS C (upF R C j t s n) t j)) (upF R C j t s n)
theorem swS_siz {p : Nat} (h : Siz R C s) : Siz R C (swS R C p t s) := by
  unfold swS; split
  · exact h.op _ _ _ _
  · exact h
theorem ngS_siz (h : Siz R C s) : Siz R C (ngS R C j t s) := by
  unfold ngS; split
  · exact h.op _ _ _ _
  · exact h
theorem upF_siz (h : Siz R C s) : ∀ n, Siz R C (upF R C j t s n)
  | 0 => h
  | n + 1 => (upF_siz h n).op _ _ _ _
theorem upF_back (h : Siz R C s) (ht : t < R) : ∀ n, n ≤ R → okS (upF R C j t s n) = true → okS s = true
  | 0, _, ho => ho
  | n + 1, hn, ho => upF_back h ht n (by omega) (okS_back (upF_siz h n) (by omega) ht ho)
theorem ngS_back (h : Siz R C s) (ht : t < R) (ho : okS (ngS R C j t s) = true) : okS s = true := by
  unfold ngS at ho
  split at ho
  · exact okS_back h ht ht ho
  · exact ho
theorem swS_back {p : Nat} (h : Siz R C s) (ht : t < R) (hp : p < R) (ho : okS (swS R C p t s) = true) : okS s = true := by
  unfold swS at ho
  split at ho
  · exact okS_back h hp ht ho
  · exact ho
theorem swS_says {p : Nat} (hF : Fin2 R C M s) (hI : HInv R C (mxC C s.1) q t j) (hj : j < C) (hp : p < R) (htp : t ≤ p) (hpz : celS C s p j ≠ 0) (ha : aloneB R C p j t s = true) (ho : okS (swS R C p t s) = true) :
    Fin2 R C M (swS R C p t s) ∧ HInv R C (mxC C (swS R C p t s).1) q t j ∧ celS C (swS R C p t s) t j ≠ 0 ∧ ∀ i, t < i → i < R → celS C (swS R C p t s) i j = 0 := by
  by_cases e : p = t
  · have es : swS R C p t s = s := by unfold swS; rw [if_neg (fun h => h e)]
    rw [es]
    subst e
    exact ⟨hF, hI, hpz, fun i h1 h2 => aloneB_says ha h2 (by omega) (by omega)⟩
  · have es : swS R C p t s = op2 R C 0 p t 0 s := by unfold swS; rw [if_pos e]
    rw [es] at ho ⊢
    obtain ⟨k1, k2⟩ := hF.op (.inl rfl) hp (by omega) (fun _ => e) (by decide) ho
    refine ⟨k1, (hI.opSwap htp hp (Nat.le_refl _) (by omega)).congr fun i b hi hb => k2 i b hi (by omega), ?_, fun i h1 h2 => ?_⟩
    · rw [k2 t j (by omega) hj]
      unfold opX
      rw [if_pos rfl, if_neg (Ne.symm e), if_pos rfl]; exact hpz
    · rw [k2 i j h2 hj]
      unfold opX
      rw [if_pos rfl]
      by_cases e2 : i = p
      · rw [if_pos e2]; exact aloneB_says ha (by omega) (Nat.le_refl _) (Ne.symm e)
      · rw [if_neg e2, if_neg (by omega)]; exact aloneB_says ha h2 (by omega) e2
theorem ngS_says (hF : Fin2 R C M s) (hI : HInv R C (mxC C s.1) q t j) (hj : j < C) (ht : t < R) (hpz : celS C s t j ≠ 0) (hz : ∀ i, t < i → i < R → celS C s i j = 0) (ho : okS (ngS R C j t s) = true) :
    Fin2 R C M (ngS R C j t s) ∧ HInv R C (mxC C (ngS R C j t s).1) q t j ∧ 0 < celS C (ngS R C j t s) t j ∧ ∀ i, t < i → i < R → celS C (ngS R C j t s) i j = 0 := by
  by_cases e : celS C s t j < 0
  · have es : ngS R C j t s = op2 R C 1 t t 0 s := by unfold ngS; rw [if_pos e]
    rw [es] at ho ⊢
    obtain ⟨k1, k2⟩ := hF.op (.inr (.inl rfl)) ht ht (fun h => absurd rfl h) (by decide) ho
    refine ⟨k1, (hI.opNeg (z := 0) (J := t) (Nat.le_refl _) ht).congr fun i b hi hb => k2 i b hi (by omega), ?_, fun i h1 h2 => ?_⟩
    · rw [k2 t j ht hj]
      unfold opX
      rw [if_neg (by decide), if_pos rfl, if_pos rfl]
      change 0 < - celS C s t j
      omega
    · rw [k2 i j h2 hj]
      unfold opX
      rw [if_neg (by decide), if_pos rfl, if_neg (by omega)]; exact hz i h1 h2
  · have es : ngS R C j t s = s := by unfold ngS; rw [if_neg e]
    rw [es]
    exact ⟨hF, hI, by omega, hz⟩
theorem upF_says (hF : Fin2 R C M s) (hI : HInv R C (mxC C s.1) q t j) (hj : j < C) (ht : t < R) (hp : 0 < celS C s t j) : ∀ n, n ≤ t → okS (upF R C j t s n) = true →
    Fin2 R C M (upF R C j t s n) ∧ HInv R C (mxC C (upF R C j t s n).1) q t j ∧ (∀ i, n ≤ i → i < R → celS C (upF R C j t s n) i j = celS C s i j) ∧ ∀ i, i < n → 0 ≤ celS C (upF R C j t s n) i j ∧ celS C (upF R C j t s n) i j < celS C s t j
  | 0, _, _ => ⟨hF, hI, fun _ _ _ => rfl, fun i hi => by omega⟩
  | n + 1, hn, ho => by
    obtain ⟨g1, g2, g3, g4⟩ := upF_says hF hI hj ht hp n (by omega) (okS_back (upF_siz hF.siz n) (by omega) ht ho)
    have et := g3 t (by omega) ht
    have hy : celS C (upF R C j t s n) t j ≠ 0 := by rw [et]; omega
    obtain ⟨k1, k2⟩ := g1.op (.inr (.inr rfl)) (by omega : n < R) ht (fun _ => by omega) (quot_num (g1.num n j) hy) ho
    have ql := quot_left (x := celS C (upF R C j t s n) n j) hy
    have ce : ∀ i b, i < R → b < C → i ≠ n → celS C (upF R C j t s (n + 1)) i b = celS C (upF R C j t s n) i b := fun i b hi hb hne => by
      refine (k2 i b hi hb).trans ?_
      unfold opX
      rw [if_neg (by decide), if_neg (by decide), if_neg hne]; rfl
    have cn : celS C (upF R C j t s (n + 1)) n j = celS C (upF R C j t s n) n j % celS C (upF R C j t s n) t j := by
      refine (k2 n j (by omega) hj).trans ?_
      rw [← ql.1]
      unfold opX
      rw [if_neg (by decide), if_neg (by decide), if_pos rfl]; rfl
    refine ⟨k1, (g2.opAdd (Nat.le_refl _) ht).congr fun i b hi hb => k2 i b hi (by omega), fun i h1 h2 => by rw [ce i j h2 hj (by omega)]; exact g3 i (by omega) h2, fun i hi => ?_⟩
    rcases Nat.lt_or_ge i n with h4 | h4
    · rw [ce i j (by omega) hj (by omega)]; exact g4 i h4
    · obtain rfl : i = n := by omega
      rw [cn]
      rw [et] at ql ⊢
      omega

/-! ### A column, and all of them -/
def pvS (R C j t p : Nat) (s : HSt) : HSt := upF R C j t (ngS R C j t (swS R C p t s)) t
def colF (R C j t : Nat) (s : HSt) : Option (HSt × Nat) :=
  if leastS R C j t s < 0 then some (s, t)
  else match loopF R C j t ((celS C s (leastS R C j t s).toNat j).natAbs + 1) s (leastS R C j t s).toNat with
    | none => none
    | some (s1, p) => if okS (pvS R C j t p s1) = true then some (pvS R C j t p s1, t + 1) else none
theorem colF_says {s' : HSt} {t' : Nat} (hF : Fin2 R C M s) (hI : HInv R C (mxC C s.1) q t j) (hj : j < C) (ht : t < R) (h : colF R C j t s = some (s', t')) : Fin2 R C M s' ∧ ∃ q', HInv R C (mxC C s'.1) q' t' (j + 1) := by
  unfold colF at h
  rcases leastS_says R C j t s (by omega) with ⟨h1, h2⟩ | ⟨p, hL⟩
  · rw [if_pos (by omega)] at h
    cases h
    exact ⟨hF, q, hI.skip hj h2⟩
  · have e : (leastS R C j t s).toNat = p := by have := hL.1; omega
    rw [if_neg (by have := hL.1; omega), e] at h
    cases hl : loopF R C j t ((celS C s p j).natAbs + 1) s p with
    | none => rw [hl] at h; cases h
    | some z =>
      obtain ⟨s1, p1⟩ := z
      rw [hl] at h
      dsimp only at h
      obtain ⟨f1, i1, a1, a2, a3, a4⟩ := loopF_says hj _ s p hF hI hL.2.2.1 hL.2.1 hL.2.2.2.1 hl
      by_cases ho : okS (pvS R C j t p1 s1) = true
      · rw [if_pos ho] at h
        cases h
        have o2 := upF_back (ngS_siz (swS_siz f1.siz)) ht t (by omega) ho
        have o1 := ngS_back (swS_siz f1.siz) ht o2
        obtain ⟨f2, i2, b1, b2⟩ := swS_says f1 i1 hj a1 a2 a3 a4 o1
        obtain ⟨f3, i3, c1, c2⟩ := ngS_says f2 i2 hj ht b1 b2 o2
        obtain ⟨f4, i4, d1, d2⟩ := upF_says f3 i3 hj ht c1 t (Nat.le_refl _) ho
        have et := d1 t (Nat.le_refl _) ht
        refine ⟨f4, _, i4.put hj ht (by change 0 < celS C (pvS R C j t p1 s1) t j; unfold pvS; rw [et]; exact c1) (fun i h1 h2 => (d1 i (by omega) h2).trans (c2 i h1 h2)) fun i hi => ?_⟩
        have := d2 i hi
        refine ⟨this.1, ?_⟩
        change celS C (upF R C j t (ngS R C j t (swS R C p1 t s1)) t) i j < celS C (upF R C j t (ngS R C j t (swS R C p1 t s1)) t) t j
        rw [et]; exact this.2
      · rw [if_neg ho] at h; cases h
end
def allF (R C : Nat) : Nat → Nat → Nat → HSt → Option HSt
  | 0, _, _, s => some s
  | n + 1, j, t, s => if t < R then (match colF R C j t s with | none => none | some (s', t') => allF R C n (j + 1) t' s') else some s
theorem allF_says {R C : Nat} {M : Mx} : ∀ (n j t : Nat) (s : HSt) {s' : HSt} {q : Nat → Nat}, j + n = C → Fin2 R C M s → HInv R C (mxC C s.1) q t j → allF R C n j t s = some s' → Fin2 R C M s' ∧ ∃ q' t', HerP R C (mxC C s'.1) q' t'
  | 0, j, t, s, s', q, hn, hF, hI, h => by
    cases h
    exact ⟨hF, q, t, hI.done (.inr (by omega))⟩
  | n + 1, j, t, s, s', q, hn, hF, hI, h => by
    by_cases ht : t < R
    · have e : allF R C (n + 1) j t s = (match colF R C j t s with | none => none | some (s', t') => allF R C n (j + 1) t' s') := if_pos ht
      rw [e] at h
      cases hc : colF R C j t s with
      | none => rw [hc] at h; cases h
      | some z =>
        obtain ⟨s1, t1⟩ := z
        rw [hc] at h
        obtain ⟨f1, q1, i1⟩ := colF_says hF hI (by omega) ht hc
        exact allF_says n (j + 1) t1 s1 (by omega) f1 i1 h
    · have e : allF R C (n + 1) j t s = some s := if_neg ht
      rw [e] at h
      cases h
      have := hI.le
      exact ⟨hF, q, t, hI.done (.inl (by omega))⟩
/-- What HermiteForm finds. -/
def herX (R C : Nat) (xs : List Int) : Option HSt := allF R C C 0 0 (xs, idL R R)
theorem herX_says {R C : Nat} {xs : List Int} {s : HSt} (hl : xs.length = R * C) (hn : nums xs = true) (h : herX R C xs = some s) : Fin2 R C (mxC C xs) s ∧ ∃ q t, HerP R C (mxC C s.1) q t := by
  refine allF_says C 0 0 (xs, idL R R) (q := fun _ => 0) (by omega) ⟨⟨hl, idL_length R R, MkOr.of_nums hn, MkOr.of_nums (idL_nums R)⟩, ?_, ?_⟩ (HInv.start _ _ _ _) h
  · unfold okS; rw [hn, idL_nums]; rfl
  · exact (Acc.start R C (mxC C xs)).congr (mxL_idL R).symm fun _ _ _ _ => rfl
/-- Matrices that span one lattice have one Hermite form. -/
theorem herX_uniq {R C : Nat} {xs ys : List Int} {s s' : HSt} (hl : xs.length = R * C) (hn : nums xs = true) (h : herX R C xs = some s) (hl' : ys.length = R * C) (hn' : nums ys = true) (h' : herX R C ys = some s') (h1 : SubL R R C (mxC C xs) (mxC C ys)) (h2 : SubL R R C (mxC C ys) (mxC C xs)) : s.1 = s'.1 := by
  obtain ⟨f1, q, t, a1⟩ := herX_says hl hn h
  obtain ⟨f2, q', t', a2⟩ := herX_says hl' hn' h'
  obtain ⟨-, e⟩ := f1.acc.uniq f2.acc a1 a2 h1 h2
  have e1 : s.1 = tab R C (mxC C s'.1) := tab_ext f1.siz.l1 fun i j hi hj => e i j hi hj
  have e2 : s'.1 = tab R C (mxC C s'.1) := tab_ext f2.siz.l1 fun i j hi hj => rfl
  rw [e1, ← e2]
end Go.Proofs.Ytpknondccajinaa
end

section
/-
  Plain mathematics of chapter 12: a Hermite form is its own; what the law of Hermite forms says. Nothing of a program is used.
-/
namespace Go.Proofs.Ytpknondccajinaa

theorem opL_none {I J C : Nat} {xs : List Int} (h : nums xs = true) : opL 2 I J 0 C xs = xs := by
  refine list_getD (opL_length _ _ _ _ _ _) fun p hp => ?_
  rw [opL_length] at hp
  rw [opL_getD hp]
  unfold opAt
  rw [if_neg (by decide), if_neg (by decide)]
  split
  · rw [mulB_num (nums_def h _) (by decide), Int.mul_zero, fitB_num (by decide), addB_num (nums_def h _) (by decide), Int.add_zero, fitB_num (nums_def h _)]
  · rfl
theorem op2_none {R C I J : Nat} {s : HSt} (h : okS s = true) : op2 R C 2 I J 0 s = s := by
  obtain ⟨a, b⟩ := okS_and h
  unfold op2
  rw [opL_none a, opL_none b]
section
variable {R C j t : Nat} {s : HSt}
theorem upF_fix (ho : okS s = true) (h : ∀ i, i < t → 0 ≤ celS C s i j ∧ celS C s i j < celS C s t j) : ∀ n, n ≤ t → upF R C j t s n = s
  | 0, _ => rfl
  | n + 1, hn => by
    have e := upF_fix ho h n (by omega)
    show op2 R C 2 n t (-(celS C (upF R C j t s n) n j / celS C (upF R C j t s n) t j)) (upF R C j t s n) = s
    rw [e]
    have := h n (by omega)
    rw [Int.ediv_eq_zero_of_lt this.1 this.2, Int.neg_zero, op2_none ho]
theorem colF_fix (ht : t < R) (ho : okS s = true) (hp : 0 < celS C s t j) (hz : ∀ i, t < i → i < R → celS C s i j = 0) (ha : ∀ i, i < t → 0 ≤ celS C s i j ∧ celS C s i j < celS C s t j) : colF R C j t s = some (s, t + 1) := by
  have hl : leastS R C j t s = (t : Int) := by
    rcases leastS_says R C j t s (by omega) with ⟨-, h2⟩ | ⟨p, h1, h2, h3, h4, -⟩
    · have := h2 t (Nat.le_refl _) ht; omega
    · rcases Nat.lt_or_ge t p with h5 | h5
      · exact absurd (hz p h5 h3) h4
      · rw [h1, show p = t by omega]
  have al : aloneB R C t j t s = true := aloneB_true fun i hi hti hne => hz i (by omega) hi
  have e1 : pvS R C j t t s = s := by
    have a1 : swS R C t t s = s := by unfold swS; rw [if_neg (fun h => h rfl)]
    have a2 : ngS R C j t s = s := by unfold ngS; rw [if_neg (by omega)]
    unfold pvS
    rw [a1, a2]
    exact upF_fix ho ha t (Nat.le_refl _)
  unfold colF
  rw [if_neg (by omega), hl, show ((t : Int)).toNat = t from rfl, loopF_alone (by omega) al]
  dsimp only
  rw [e1, if_pos ho]
theorem colF_skip (ht : t < R) (hz : ∀ i, t ≤ i → i < R → celS C s i j = 0) : colF R C j t s = some (s, t) := by
  unfold colF
  rcases leastS_says R C j t s (by omega) with ⟨h1, -⟩ | ⟨p, h1, h2, h3, h4, -⟩
  · rw [if_pos (by omega)]
  · exact absurd (hz p h2 h3) h4
theorem allF_fix {q : Nat → Nat} {T : Nat} (ho : okS s = true) (h : HerP R C (mxC C s.1) q T) : ∀ n j t, j + n = C → t ≤ T → (∀ k, k < t → q k < j) → (t < T → j ≤ q t) → allF R C n j t s = some s
  | 0, _, _, _, _, _, _ => rfl
  | n + 1, j, t, hn, ht, h1, h2 => by
    by_cases hR : t < R
    · have e : allF R C (n + 1) j t s = (match colF R C j t s with | none => none | some (s', t') => allF R C n (j + 1) t' s') := if_pos hR
      rw [e]
      by_cases hq : t < T ∧ q t = j
      · obtain ⟨hT, hq⟩ := hq
        have a1 : 0 < celS C s t j := by have := h.pos t hT; rw [hq] at this; exact this
        have a2 : ∀ i, t < i → i < R → celS C s i j = 0 := fun i hi hiR => by
          rcases Nat.lt_or_ge i T with h5 | h5
          · exact h.left i j h5 (by have := h.inc t i hi h5; omega)
          · exact h.rest i j h5 hiR (by omega)
        have a3 : ∀ i, i < t → 0 ≤ celS C s i j ∧ celS C s i j < celS C s t j := fun i hi => by have := h.above t i hT hi; rw [hq] at this; exact this
        rw [colF_fix hR ho a1 a2 a3]
        refine allF_fix ho h n (j + 1) (t + 1) (by omega) hT (fun k hk => ?_) fun hk => ?_
        · rcases Nat.lt_or_ge k t with h5 | h5
          · have := h1 k h5; omega
          · obtain rfl : k = t := by omega
            omega
        · have := h.inc t (t + 1) (by omega) hk; omega
      · have a2 : ∀ i, t ≤ i → i < R → celS C s i j = 0 := fun i hi hiR => by
          rcases Nat.lt_or_ge i T with h5 | h5
          · refine h.left i j h5 ?_
            have a := h2 (by omega)
            have b := h.mono hi h5
            have : q t ≠ j := fun e => hq ⟨by omega, e⟩
            omega
          · exact h.rest i j h5 hiR (by omega)
        rw [colF_skip hR a2]
        refine allF_fix ho h n (j + 1) t (by omega) ht (fun k hk => by have := h1 k hk; omega) fun hk => ?_
        have a := h2 hk
        have : q t ≠ j := fun e => hq ⟨hk, e⟩
        omega
    · exact if_neg hR
end
/-- A Hermite form is its own Hermite form. -/
theorem herX_fix {R C : Nat} {xs : List Int} {q : Nat → Nat} {T : Nat} (hn : nums xs = true) (h : HerP R C (mxC C xs) q T) : herX R C xs = some (xs, idL R R) :=
  allF_fix (s := (xs, idL R R)) (by unfold okS; rw [hn, idL_nums]; rfl) h C 0 0 (by omega) (Nat.zero_le _) (fun k hk => by omega) fun _ => Nat.zero_le _
/-- The first part of the law: the account times the matrix is the form. -/
theorem herX_prod {R C : Nat} {xs : List Int} {s : HSt} (hl : xs.length = R * C) (hn : nums xs = true) (h : herX R C xs = some s) : mulL R R C s.2 xs = s.1 := by
  obtain ⟨f, -⟩ := herX_says hl hn h
  have e1 : s.1 = tab R C (mxC C s.1) := tab_ext f.siz.l1 fun i j hi hj => rfl
  rw [e1]
  refine tab_ext (mulL_length _ _ _ _ _) fun i j hi hj => ?_
  rw [mulL_at R R C _ _ hi hj, dot_sum]
  exact f.acc.mul i j hi hj
/-- The second: a unimodular multiple has the same form. -/
theorem herX_mix {R C : Nat} {xs us : List Int} {s s' : HSt} (hl : xs.length = R * C) (hn : nums xs = true) (h : herX R C xs = some s) (hu : det R (mxC R us) = 1 ∨ det R (mxC R us) = -1) (hn' : nums (mulL R R C us xs) = true) (h' : herX R C (mulL R R C us xs) = some s') : s'.1 = s.1 := by
  have e : ∀ i j, i < R → j < C → mxC C (mulL R R C us xs) i j = mulX R (mxC R us) (mxC C xs) i j := fun i j hi hj => by
    show (mulL R R C us xs).getD (i * C + j) 0 = _
    rw [mulL_at R R C _ _ hi hj, dot_sum]; rfl
  have s1 : SubL R R C (mxC C (mulL R R C us xs)) (mxC C xs) := (SubL.congr e).trans (SubL.mul R C _ _)
  have s2 : SubL R R C (mxC C xs) (mxC C (mulL R R C us xs)) := (SubL.unmul hu).trans (SubL.congr fun i j hi hj => (e i j hi hj).symm)
  exact herX_uniq (mulL_length _ _ _ _ _) hn' h' hl hn h s1 s2
end Go.Proofs.Ytpknondccajinaa
end

section
/-
  Chapter 12: what a walk of HermiteForm needs of its steps. Nothing of a program is used.
-/
namespace Go.Proofs.Ytpknondccajinaa
open Go.RowKit

theorem mulB_neg {x : Int} (h : NumP x) : NumP (mulB x (-1)) := by
  have h' := h
  unfold NumP at h'
  rw [mulB_num h (show NumP (-1) by unfold NumP; omega), fitB_num (show NumP (x * -1) by unfold NumP; omega)]
  unfold NumP
  omega
/-- Rows that are not operated on stay. -/
theorem celS_other {R C I J i j : Nat} {z : Int} {s : HSt} (h : Siz R C s) (hi : i < R) (hj : j < C) (hne : i ≠ I) : celS C (op2 R C 2 I J z s) i j = celS C s i j := by
  have hp : i * C + j < s.1.length := by rw [h.l1]; exact idx_lt hi hj
  show (opL 2 I J z C s.1).getD (i * C + j) 0 = _
  rw [opL_getD hp]
  unfold opAt
  rw [if_neg (by decide), if_neg (by decide), idx_div hj, if_neg hne]
  rfl
/-- A swap and a change of signs make no marks. -/
theorem ok_plain {R C I J : Nat} {k z : Int} {s : HSt} (hk : k = 0 ∨ k = 1) (ho : okS s = true) : okS (op2 R C k I J z s) = true := by
  obtain ⟨a, b⟩ := okS_and ho
  have key : ∀ (D : Nat) (xs : List Int), nums xs = true → nums (opL k I J z D xs) = true := fun D xs hx => nums_true fun p hp => by
    rw [opL_length] at hp
    rw [opL_getD hp]
    unfold opAt
    rcases hk with rfl | rfl
    · rw [if_pos rfl]
      split
      · exact nums_def hx _
      · split
        · exact nums_def hx _
        · exact nums_def hx _
    · rw [if_neg (by decide), if_pos rfl]
      split
      · exact mulB_neg (nums_def hx _)
      · exact nums_def hx _
  unfold okS
  show (nums (opL k I J z C s.1) && nums (opL k I J z R s.2)) = true
  rw [key C _ a, key R _ b]; rfl
theorem ok_sw {R C p t : Nat} {s : HSt} (ho : okS s = true) : okS (swS R C p t s) = true := by
  unfold swS; split
  · exact ok_plain (.inl rfl) ho
  · exact ho
theorem ok_ng {R C j t : Nat} {s : HSt} (ho : okS s = true) : okS (ngS R C j t s) = true := by
  unfold ngS; split
  · exact ok_plain (.inr rfl) ho
  · exact ho
section
variable {R C j t p : Nat} {s : HSt}
theorem rndF_keep (h : Siz R C s) (hj : j < C) : ∀ n, t + n ≤ R → (p < R → celS C (rndF R C p j t s n) p j = celS C s p j) ∧ ∀ i, i < R → t + n ≤ i → celS C (rndF R C p j t s n) i j = celS C s i j
  | 0, _ => ⟨fun _ => rfl, fun _ _ _ => rfl⟩
  | n + 1, hn => by
    obtain ⟨g1, g2⟩ := rndF_keep h hj n (by omega)
    have hs := rndF_siz (p := p) (j := j) (t := t) h n
    by_cases hc : t + n ≠ p ∧ celS C (rndF R C p j t s n) (t + n) j ≠ 0
    · rw [show rndF R C p j t s (n + 1) = op2 R C 2 (t + n) p (-(celS C (rndF R C p j t s n) (t + n) j / celS C (rndF R C p j t s n) p j)) (rndF R C p j t s n) from if_pos hc]
      exact ⟨fun hp => (celS_other hs hp hj (fun e => hc.1 e.symm)).trans (g1 hp), fun i hi h2 => (celS_other hs hi hj (by omega)).trans (g2 i hi (by omega))⟩
    · rw [show rndF R C p j t s (n + 1) = rndF R C p j t s n from if_neg hc]
      exact ⟨g1, fun i hi h2 => g2 i hi (by omega)⟩
theorem rnd_skip {n : Nat} (h : Siz R C s) (hj : j < C) (hn : t + n < R) (hc : t + n = p ∨ celS C s (t + n) j = 0) : rndF R C p j t s (n + 1) = rndF R C p j t s n := by
  have e := (rndF_keep (p := p) h hj n (by omega)).2 (t + n) hn (Nat.le_refl _)
  show (if _ then _ else _) = _
  rw [if_neg]
  rw [e]
  rintro ⟨h1, h2⟩
  rcases hc with h3 | h3
  · exact h1 h3
  · exact h2 h3
theorem rnd_do {n : Nat} (h : Siz R C s) (hj : j < C) (hp : p < R) (hn : t + n < R) (h1 : t + n ≠ p) (h2 : celS C s (t + n) j ≠ 0) : rndF R C p j t s (n + 1) = op2 R C 2 (t + n) p (-(celS C s (t + n) j / celS C s p j)) (rndF R C p j t s n) := by
  have e := (rndF_keep (p := p) (t := t) h hj n (by omega)).2 (t + n) hn (Nat.le_refl _)
  have e2 := (rndF_keep (p := p) (t := t) h hj n (by omega)).1 hp
  show (if _ then _ else _) = _
  rw [if_pos ⟨h1, by rw [e]; exact h2⟩, e, e2]
theorem upF_keep (h : Siz R C s) (hj : j < C) (ht : t < R) : ∀ n, n ≤ t → celS C (upF R C j t s n) t j = celS C s t j ∧ ∀ i, i < R → n ≤ i → celS C (upF R C j t s n) i j = celS C s i j
  | 0, _ => ⟨rfl, fun _ _ _ => rfl⟩
  | n + 1, hn => by
    obtain ⟨g1, g2⟩ := upF_keep h hj ht n (by omega)
    have hs := upF_siz (j := j) (t := t) h n
    exact ⟨(celS_other hs ht hj (by omega)).trans g1, fun i hi h2 => (celS_other hs hi hj (by omega)).trans (g2 i hi (by omega))⟩
theorem up_do {n : Nat} (h : Siz R C s) (hj : j < C) (ht : t < R) (hn : n < t) : upF R C j t s (n + 1) = op2 R C 2 n t (-(celS C s n j / celS C s t j)) (upF R C j t s n) := by
  obtain ⟨g1, g2⟩ := upF_keep h hj ht n (by omega)
  show op2 R C 2 n t (-(celS C (upF R C j t s n) n j / celS C (upF R C j t s n) t j)) _ = _
  rw [g1, g2 n (by omega) (Nat.le_refl _)]
/-! ### The columns -/
theorem all_full {n : Nat} (h : ¬ t < R) : allF R C n j t s = some s := by
  cases n with
  | zero => rfl
  | succ n => exact if_neg h
theorem all_none {n : Nat} (h : t < R) (hc : colF R C j t s = none) : allF R C (n + 1) j t s = none := by
  show (if _ then _ else _) = _
  rw [if_pos h, hc]
theorem all_some {n : Nat} {s' : HSt} {t' : Nat} (h : t < R) (hc : colF R C j t s = some (s', t')) : allF R C (n + 1) j t s = allF R C n (j + 1) t' s' := by
  show (if _ then _ else _) = _
  rw [if_pos h, hc]
theorem col_skip (h : leastS R C j t s = -1) : colF R C j t s = some (s, t) := if_pos (by omega)
theorem col_go (h : leastS R C j t s = (p : Int)) : colF R C j t s = match loopF R C j t ((celS C s p j).natAbs + 1) s p with
    | none => none
    | some (s1, p) => if okS (pvS R C j t p s1) = true then some (pvS R C j t p s1, t + 1) else none := by
  unfold colF
  rw [if_neg (by omega), h, Int.toNat_natCast]
  first | done | rfl
theorem col_none (h : leastS R C j t s = (p : Int)) (hl : loopF R C j t ((celS C s p j).natAbs + 1) s p = none) : colF R C j t s = none := by rw [col_go h, hl]
theorem col_bad {s1 : HSt} {p1 : Nat} (h : leastS R C j t s = (p : Int)) (hl : loopF R C j t ((celS C s p j).natAbs + 1) s p = some (s1, p1)) (ho : okS (pvS R C j t p1 s1) = false) : colF R C j t s = none := by
  rw [col_go h, hl]
  show (if _ then _ else _) = _
  rw [if_neg (by rw [ho]; decide)]
theorem col_ok {s1 : HSt} {p1 : Nat} (h : leastS R C j t s = (p : Int)) (hl : loopF R C j t ((celS C s p j).natAbs + 1) s p = some (s1, p1)) (ho : okS (pvS R C j t p1 s1) = true) : colF R C j t s = some (pvS R C j t p1 s1, t + 1) := by
  rw [col_go h, hl]
  show (if _ then _ else _) = _
  rw [if_pos ho]
end
theorem herX_start {R C : Nat} {xs : List Int} (hl : xs.length = R * C) (hn : nums xs = true) : Fin2 R C (mxC C xs) (xs, idL R R) := by
  refine ⟨⟨hl, idL_length R R, MkOr.of_nums hn, MkOr.of_nums (idL_nums R)⟩, ?_, ?_⟩
  · unfold okS; rw [hn, idL_nums]; rfl
  · exact (Acc.start R C (mxC C xs)).congr (mxL_idL R).symm fun _ _ _ _ => rfl
end Go.Proofs.Ytpknondccajinaa
end

section
/-
  Plain mathematics of chapter 12: telling a Hermite form. Nothing of a program is used.
-/
namespace Go.Proofs.Ytpknondccajinaa

/-- What is wrong with row i behind a row whose pivot is in column last. -/
def hrBad (c : Nat) (xs : List Int) (i : Nat) (last : Int) : Prop := leadC c (mxC c xs i) < c ∧ (last = c ∨ (leadC c (mxC c xs i) : Int) ≤ last ∨ mxC c xs i (leadC c (mxC c xs i)) < 0)
def hcBad (r c : Nat) (xs : List Int) (i : Nat) : Prop := leadC c (mxC c xs i) < c ∧ ∃ k, k < r ∧ ((k < i ∧ ¬ (0 ≤ mxC c xs k (leadC c (mxC c xs i)) ∧ mxC c xs k (leadC c (mxC c xs i)) ≤ mxC c xs i (leadC c (mxC c xs i)) - 1)) ∨ (i < k ∧ mxC c xs k (leadC c (mxC c xs i)) ≠ 0))
/-- k rows from row i on are those of a Hermite form. -/
def HmB (r c : Nat) (xs : List Int) : Nat → Nat → Int → Prop
  | 0, _, _ => True
  | k + 1, i, last => ¬ hrBad c xs i last ∧ ¬ hcBad r c xs i ∧ HmB r c xs k (i + 1) (leadC c (mxC c xs i))
theorem HmB_step {r c k i : Nat} {xs : List Int} {last : Int} : HmB r c xs (k + 1) i last ↔ (¬ hrBad c xs i last ∧ ¬ hcBad r c xs i ∧ HmB r c xs k (i + 1) (leadC c (mxC c xs i))) := Iff.rfl
theorem HerP.lead_at {r c t : Nat} {xs : List Int} {p : Nat → Nat} (h : HerP r c (mxC c xs) p t) {i : Nat} (hi : i < t) : leadC c (mxC c xs i) = p i :=
  leadF_eq (Nat.zero_le _) (by have := h.col i hi; omega) (fun j _ hj => h.left i j hi hj) (fun _ => by have := h.pos i hi; omega)
theorem HerP.lead_no {r c t : Nat} {xs : List Int} {p : Nat → Nat} (h : HerP r c (mxC c xs) p t) {i : Nat} (hi : t ≤ i) (hir : i < r) : leadC c (mxC c xs i) = c :=
  leadF_eq (Nat.zero_le _) (by omega) (fun j _ hj => h.rest i j hi hir hj) (fun h => by omega)
/-- A Hermite form is told to be one. -/
theorem HerP.hmB {r c t : Nat} {xs : List Int} {p : Nat → Nat} (h : HerP r c (mxC c xs) p t) : ∀ (k i : Nat) (last : Int), i + k = r → (i < t → last < p i ∧ last ≠ c) → HmB r c xs k i last := by
  intro k
  induction k with
  | zero => intro i last _ _; trivial
  | succ k ih =>
    intro i last hik hl
    have hir : i < r := by omega
    rcases Nat.lt_or_ge i t with hit | hit
    · obtain ⟨h1, h2⟩ := hl hit
      have e := h.lead_at hit
      have hc := h.col i hit
      have hp := h.pos i hit
      refine ⟨?_, ?_, ?_⟩
      · rintro ⟨-, hb⟩
        rw [e] at hb
        rcases hb with h3 | h3 | h3
        · exact h2 h3
        · omega
        · omega
      · rintro ⟨-, k', h3, h4⟩
        rw [e] at h4
        rcases h4 with ⟨h5, h6⟩ | ⟨h5, h6⟩
        · have := h.above i k' hit h5
          exact h6 ⟨this.1, by omega⟩
        · rcases Nat.lt_or_ge k' t with h7 | h7
          · exact h6 (h.left k' (p i) h7 (h.inc i k' h5 h7))
          · exact h6 (h.rest k' (p i) h7 h3 hc)
      · rw [e]
        refine ih (i + 1) _ (by omega) fun h3 => ?_
        have := h.inc i (i + 1) (by omega) h3
        omega
    · have e := h.lead_no hit hir
      refine ⟨fun hb => ?_, fun hb => ?_, ih (i + 1) _ (by omega) fun h3 => by omega⟩
      · have := hb.1; omega
      · have := hb.1; omega
/-- What is told to be a Hermite form is one. -/
theorem HmB.rows {r c : Nat} {xs : List Int} : ∀ (k i : Nat) (last : Int), i + k = r → HmB r c xs k i last →
    (last = c → ∀ q, i ≤ q → q < r → leadC c (mxC c xs q) = c) ∧ (∀ q, i ≤ q → q < r → leadC c (mxC c xs q) < c → last < leadC c (mxC c xs q) ∧ 0 < mxC c xs q (leadC c (mxC c xs q)) ∧ ∀ s, s < q → 0 ≤ mxC c xs s (leadC c (mxC c xs q)) ∧ mxC c xs s (leadC c (mxC c xs q)) < mxC c xs q (leadC c (mxC c xs q))) ∧ ∀ q s, i ≤ q → q < s → s < r → leadC c (mxC c xs s) < c → leadC c (mxC c xs q) < leadC c (mxC c xs s) := by
  intro k
  induction k with
  | zero => intro i last hik _; exact ⟨fun _ q h1 h2 => by omega, fun q h1 h2 => by omega, fun q s h1 h2 h3 => by omega⟩
  | succ k ih =>
    intro i last hik ⟨hrow, hcol, hrest⟩
    obtain ⟨g1, g2, g3⟩ := ih (i + 1) _ (by omega) hrest
    obtain ⟨l1, l2, l3⟩ := leadC_says c (mxC c xs i)
    have own : leadC c (mxC c xs i) < c → last ≠ c ∧ last < leadC c (mxC c xs i) ∧ 0 < mxC c xs i (leadC c (mxC c xs i)) ∧ ∀ s, s < i → 0 ≤ mxC c xs s (leadC c (mxC c xs i)) ∧ mxC c xs s (leadC c (mxC c xs i)) < mxC c xs i (leadC c (mxC c xs i)) := fun h => by
      have h0 := l3 h
      refine ⟨fun e => hrow ⟨h, .inl e⟩, Int.not_le.mp fun e => hrow ⟨h, .inr (.inl e)⟩, ?_, fun s hs => ?_⟩
      · have : ¬ mxC c xs i (leadC c (mxC c xs i)) < 0 := fun e => hrow ⟨h, .inr (.inr e)⟩
        omega
      · have : 0 ≤ mxC c xs s (leadC c (mxC c xs i)) ∧ mxC c xs s (leadC c (mxC c xs i)) ≤ mxC c xs i (leadC c (mxC c xs i)) - 1 := Classical.byContradiction fun e => hcol ⟨h, s, by omega, .inl ⟨hs, e⟩⟩
        exact ⟨this.1, by omega⟩
    refine ⟨fun e q h1 h2 => ?_, fun q h1 h2 h3 => ?_, fun q s h1 h2 h3 h4 => ?_⟩
    · have hi : leadC c (mxC c xs i) = c := by
        rcases Nat.lt_or_ge (leadC c (mxC c xs i)) c with h4 | h4
        · exact absurd e (own h4).1
        · omega
      rcases Nat.lt_or_ge i q with h4 | h4
      · exact g1 (by rw [hi]) q h4 h2
      · obtain rfl : q = i := by omega
        exact hi
    · rcases Nat.lt_or_ge i q with h4 | h4
      · obtain ⟨h5, h6, h7⟩ := g2 q h4 h2 h3
        have h8 : leadC c (mxC c xs i) < c := by omega
        have := (own h8).2.1
        exact ⟨by omega, h6, h7⟩
      · obtain rfl : q = i := by omega
        exact (own h3).2
    · rcases Nat.lt_or_ge i q with h5 | h5
      · exact g3 q s h5 h2 h3 h4
      · obtain rfl : q = i := by omega
        have := (g2 s h2 h3 h4).1
        omega
theorem HmB_iff {r c : Nat} {xs : List Int} : HmB r c xs r 0 (-1) ↔ ∃ q t, HerP r c (mxC c xs) q t := by
  constructor
  · intro h
    obtain ⟨-, g2, g3⟩ := HmB.rows r 0 (-1) (by omega) h
    obtain ⟨-, t2, t3, t4⟩ := topN_says (c := c) (xs := xs) (k := r) (i := 0)
    refine ⟨fun i => leadC c (mxC c xs i), topN c xs r 0, by omega, fun k hk => t3 k (Nat.zero_le _) hk, fun k l h1 h2 => g3 k l (Nat.zero_le _) h1 (by omega) (t3 l (Nat.zero_le _) h2), fun k hk => (g2 k (Nat.zero_le _) (by omega) (t3 k (Nat.zero_le _) hk)).2.1, fun k j _ hj => (leadC_says c (mxC c xs k)).2.1 j hj, fun i j h1 h2 h3 => ?_, fun k i hk hi => (g2 k (Nat.zero_le _) (by omega) (t3 k (Nat.zero_le _) hk)).2.2 i hi⟩
    have hT : topN c xs r 0 < r := by omega
    have h0 := t4 (by omega)
    have hi : ¬ leadC c (mxC c xs i) < c := fun h4 => by
      rcases Nat.lt_or_ge (topN c xs r 0) i with h5 | h5
      · have := g3 (topN c xs r 0) i (Nat.zero_le _) h5 h2 h4
        omega
      · have e : i = topN c xs r 0 := by omega
        rw [e] at h4
        exact h0 h4
    have := (leadC_says c (mxC c xs i)).1
    exact (leadC_says c (mxC c xs i)).2.1 j (by omega)
  · rintro ⟨q, t, h⟩
    exact h.hmB r 0 (-1) (by omega) fun h1 => ⟨by omega, by omega⟩
open Classical in
/-- What IsHermite answers. -/
noncomputable def herIs (r c : Int) (xs : List Int) : Bool := isMat r c xs && decide (∃ q t, HerP r.toNat c.toNat (mxC c.toNat xs) q t)
theorem herIs_no {r c : Int} {xs : List Int} (h : isMat r c xs = false) : herIs r c xs = false := by unfold herIs; rw [h]; rfl
open Classical in
theorem herIs_iff {r c : Nat} {xs : List Int} (h : isMat r c xs = true) : HmB r c xs r 0 (-1) ↔ herIs r c xs = true := by
  unfold herIs
  rw [h, Bool.true_and]
  simp only [decide_eq_true_eq]
  exact HmB_iff
end Go.Proofs.Ytpknondccajinaa
end

section
/-
  A region that draws its order and stores, at its end, into cells that it loads: a condition on the world is shown again behind each operation but those that come after all loads. No function of the program is named.
-/
namespace Go.Proofs.Ytpknondccajinaa

theorem two_only {p : Nat → Prop} (a b : Nat) (ha : p a) (hb : p b) : ∀ j, (j == a || j == b) = true → p j := fun j hj => by
  rw [Bool.or_eq_true, beq_iff_eq, beq_iff_eq] at hj
  rcases hj with rfl | rfl
  · exact ha
  · exact hb
section
variable {P : Program} {ops : Array Oper} {Q : Exit → Act → World → Prop} {md : Region.Mode} {S : World → Prop} {T : Nat → Bool}

/-- Operation j waits for i, at once or by others. -/
def anc (md : Region.Mode) (ops : Array Oper) (i : Nat) : Nat → Nat → Bool
  | 0, _ => false
  | f + 1, j => match ops[j]? with
    | some o => o.after.any fun e => Region.binds md e && (e.on == i || anc md ops i f e.on)
    | none => false
/-- What has come up has come up behind all that it waits for. -/
def closedB (md : Region.Mode) (ops : Array Oper) (listed : Array Bool) : Bool :=
  (List.range ops.size).all fun j => match ops[j]? with
    | some o => !(listed.getD j false) || o.after.all fun e => !(Region.binds md e) || listed.getD e.on false
    | none => true
def Closed (md : Region.Mode) (ops : Array Oper) (listed : Array Bool) : Prop := ∀ (j : Nat) (o : Oper), ops[j]? = some o → listed.getD j false = true → ∀ e ∈ o.after, Region.binds md e = true → listed.getD e.on false = true
theorem closed_of {listed : Array Bool} (h : closedB md ops listed = true) : Closed md ops listed := fun j o ho hl e he hb => by
  unfold closedB at h
  rw [List.all_eq_true] at h
  have hj : j < ops.size := by
    rcases Nat.lt_or_ge j ops.size with h1 | h1
    · exact h1
    · rw [Array.getElem?_eq_none h1] at ho; cases ho
  have h1 := h j (List.mem_range.mpr hj)
  rw [ho] at h1
  dsimp only at h1
  rw [hl] at h1
  simp only [Bool.not_true, Bool.false_or] at h1
  rw [Array.all_eq_true_iff_forall_mem] at h1
  have h2 := h1 e he
  rw [hb] at h2
  simpa using h2
theorem Closed.set {listed : Array Bool} {i : Nat} (h : Closed md ops listed) (hr : i ∈ Region.ready md ops listed) : Closed md ops (listed.setIfInBounds i true) := fun j o ho hl e he hb => by
  by_cases hji : i = j
  · subst hji
    obtain ⟨-, o', ho', hall⟩ := mem_ready.1 hr
    rw [ho] at ho'
    cases ho'
    exact getD_set_true (hall e he hb)
  · rw [getD_set_ne false hji] at hl
    exact getD_set_true (h j o ho hl e he hb)
theorem anc_unlisted {listed : Array Bool} {i : Nat} (h : Closed md ops listed) (hi : listed.getD i false = false) : ∀ (f j : Nat), anc md ops i f j = true → listed.getD j false = false
  | 0, j, ha => by cases ha
  | f + 1, j, ha => by
    unfold anc at ha
    cases ho : ops[j]? with
    | none => rw [ho] at ha; cases ha
    | some o =>
      rw [ho] at ha
      dsimp only at ha
      rw [Array.any_eq_true'] at ha
      obtain ⟨e, he, hb⟩ := ha
      rw [Bool.and_eq_true, Bool.or_eq_true] at hb
      cases hl : listed.getD j false with
      | false => rfl
      | true =>
        have h1 := h j o ho hl e he hb.1
        rcases hb.2 with h2 | h2
        · have e2 : e.on = i := by simpa using h2
          rw [e2, hi] at h1
          cases h1
        · rw [anc_unlisted h hi f e.on h2] at h1
          cases h1
theorem anc_not_ready {listed : Array Bool} {i j f : Nat} (h : Closed md ops listed) (hi : listed.getD i false = false) (ha : anc md ops i f j = true) : j ∉ Region.ready md ops listed := fun hr => by
  have h1 := h.set hr
  obtain ⟨-, o, ho, hall⟩ := mem_ready.1 hr
  cases f with
  | zero => cases ha
  | succ f =>
    unfold anc at ha
    rw [ho] at ha
    dsimp only at ha
    rw [Array.any_eq_true'] at ha
    obtain ⟨e, he, hb⟩ := ha
    rw [Bool.and_eq_true, Bool.or_eq_true] at hb
    have h2 := hall e he hb.1
    rcases hb.2 with h3 | h3
    · have e2 : e.on = i := by simpa using h3
      rw [e2, hi] at h2
      cases h2
    · rw [anc_unlisted h hi f e.on h3] at h2
      cases h2
/-- Whatever order is picked from here on, and S holds behind every operation but those of T. -/
def wpAnyT (P : Program) (md : Region.Mode) (ops : Array Oper) (Q : Exit → Act → World → Prop) (S : World → Prop) (T : Nat → Bool) : Nat → Array Bool → Act → World → Prop
  | 0, listed, a, w => Region.ready md ops listed = [] ∧ Q .normal a w
  | fuel + 1, listed, a, w =>
    (Region.ready md ops listed = [] → Q .normal a w) ∧
    ∀ i ∈ Region.ready md ops listed, wpOp P ops Q i (fun a' w' => (T i = false → S w') ∧ wpAnyT P md ops Q S T fuel (listed.setIfInBounds i true) a' w') a w
theorem wpAny_of_T : ∀ (fuel : Nat) (listed : Array Bool) (a : Act) (w : World), wpAnyT P md ops Q S T fuel listed a w → wpAny P md ops Q fuel listed a w
  | 0, _, _, _, h => h
  | fuel + 1, _, _, _, h => ⟨h.1, fun i hi => wpOp_mono (fun a' w' h' => wpAny_of_T fuel _ a' w' h'.2) (h.2 i hi)⟩
theorem getD_swap {listed : Array Bool} {i : Nat} (h : listed.getD i true = false) : listed.getD i false = false := by
  rcases Nat.lt_or_ge i listed.size with h' | h'
  · simp [h'] at h ⊢; exact h
  · simp [Array.getElem?_eq_none h'] at h
theorem wpAnyT_first {i : Nat} {oi : Oper} {v : Value} (hi : ops[i]? = some oi) (hsel : ∀ (j : Nat) (o : Oper) cs b, ops[j]? = some o → o.op ≠ .select cs b)
    (hQ : ∀ c a w, Q (.panic c) (a.put oi.dst v) w → Q (.panic c) a w) (hT : ∀ j, T j = true → anc md ops i ops.size j = true) :
    ∀ (fuel : Nat) (listed : Array Bool) (a : Act) (w : World), Closed md ops listed →
      (∀ j oj, ops[j]? = some oj → j ≠ i → listed.getD j true = false → (∀ e ∈ oj.after, Region.binds md e = true → e.on ≠ i) → oi.apart ops oj = true) →
      i ∈ Region.ready md ops listed → YieldsIf P ops S oi v a → S w →
      wpAnyT P md ops Q S T fuel (listed.setIfInBounds i true) (a.put oi.dst v) w → wpAnyT P md ops Q S T (fuel + 1) listed a w := by
  intro fuel
  induction fuel with
  | zero =>
    intro listed a w _ _ hr hy hS H
    refine ⟨fun h => (by rw [h] at hr; cases hr), fun j hj => ?_⟩
    by_cases hji : j = i
    · subst hji; exact hy.wpOp hi hS ⟨fun _ => hS, H⟩
    · have := ready_mono hj hji
      rw [H.1] at this
      cases this
  | succ fuel ih =>
    intro listed a w hcl hfree hr hy hS H
    refine ⟨fun h => (by rw [h] at hr; cases hr), fun j hj => ?_⟩
    by_cases hji : j = i
    · subst hji; exact hy.wpOp hi hS ⟨fun _ => hS, H⟩
    · have h1 := H.2 j (ready_mono hj hji)
      have hli := getD_swap (mem_ready.1 hr).1
      have hTj : T j = false := by
        cases hb : T j with
        | false => rfl
        | true => exact absurd hj (anc_not_ready hcl hli (hT j hb))
      obtain ⟨hjun, oj, hoj, hall⟩ := mem_ready.1 hj
      have hnot : ∀ e ∈ oj.after, Region.binds md e = true → e.on ≠ i := fun e he hb heq => by
        have h1 := hall e he hb
        rw [heq, hli] at h1
        cases h1
      have h2 := wpOp_putIf hoj (hfree j oj hoj hji hjun hnot) (fun cs b => hsel i oi cs b hi) (fun cs b => hsel j oj cs b hoj) hQ hy h1
      have hfree' : ∀ k ok, ops[k]? = some ok → k ≠ i → (listed.setIfInBounds j true).getD k true = false →
          (∀ e ∈ ok.after, Region.binds md e = true → e.on ≠ i) → oi.apart ops ok = true := fun k ok hk hki hun hno => by
        refine hfree k ok hk hki ?_ hno
        by_cases hjk : j = k
        · subst hjk; exact hjun
        · rw [getD_set_ne true hjk] at hun; exact hun
      refine wpOp_mono (fun a' w' h3 => ⟨h3.2.1, ih (listed.setIfInBounds j true) a' w' (hcl.set hj) hfree' (ready_mono hr (Ne.symm hji)) h3.1 (h3.2.1 hTj) ?_⟩) h2
      rw [Array.setIfInBounds_comm _ _ hji]
      exact h3.2.2
/-- Take number i first. -/
theorem wpAnyT_take {i : Nat} {oi : Oper} {v : Value} {fuel : Nat} {listed : Array Bool} {a : Act} {w : World} (hi : ops[i]? = some oi)
    (hs : Region.noSelect ops = true) (hf : Region.free md ops listed i = true) (hr : (Region.ready md ops listed).contains i = true) (hcl : closedB md ops listed = true)
    (hT : ∀ j, T j = true → anc md ops i ops.size j = true)
    (hQ : ∀ c a w, Q (.panic c) (a.put oi.dst v) w → Q (.panic c) a w) (hy : YieldsIf P ops S oi v a) (hS : S w)
    (h : wpAnyT P md ops Q S T fuel (listed.setIfInBounds i true) (a.put oi.dst v) w) : wpAnyT P md ops Q S T (fuel + 1) listed a w :=
  wpAnyT_first hi (Region.noSelect_spec hs) hQ hT fuel listed a w (closed_of hcl) (Region.free_spec hi hf) (by simpa using hr) hy hS h
theorem wpAnyT_done {listed : Array Bool} {a : Act} {w : World} (hr : Region.ready md ops listed = []) (h : Q .normal a w) :
    ∀ fuel, wpAnyT P md ops Q S T fuel listed a w
  | 0 => ⟨hr, h⟩
  | _ + 1 => ⟨fun _ => h, by rw [hr]; simp⟩
/-- Each of the operations rs comes up next. -/
def AllReadyT (P : Program) (md : Region.Mode) (ops : Array Oper) (Q : Exit → Act → World → Prop) (S : World → Prop) (T : Nat → Bool) (fuel : Nat) (listed : Array Bool) (a : Act) (w : World) (rs : List Nat) : Prop :=
  ∀ i ∈ rs, wpOp P ops Q i (fun a' w' => (T i = false → S w') ∧ wpAnyT P md ops Q S T fuel (listed.setIfInBounds i true) a' w') a w
theorem AllReadyT.nil {fuel : Nat} {listed : Array Bool} {a : Act} {w : World} : AllReadyT P md ops Q S T fuel listed a w [] := fun _ h => by cases h
theorem AllReadyT.cons {fuel : Nat} {listed : Array Bool} {a : Act} {w : World} {i : Nat} {o : Oper} {rs : List Nat} (ho : ops[i]? = some o)
    (h : ∀ K' : Act → World → Prop, Shut (∀ a w, (T i = false → S w) → wpAnyT P md ops Q S T fuel (listed.setIfInBounds i true) a w → K' a w) → if Region.wanted o (yielded ops a.tmps) = true then Oper.wp P o a w K' Q else K' (a.put o.dst undef) w)
    (hs : AllReadyT P md ops Q S T fuel listed a w rs) : AllReadyT P md ops Q S T fuel listed a w (i :: rs) := fun j hj => by
  rcases List.mem_cons.1 hj with rfl | hj
  · exact wpOp_step ho (fun K' hK => h K' (fun a w hS hW => hK a w ⟨hS, hW⟩))
  · exact hs j hj
theorem wpAnyT_ready {rs : List Nat} {fuel : Nat} {listed : Array Bool} {a : Act} {w : World} (hr : Region.ready md ops listed = rs) (hne : rs ≠ [])
    (h : AllReadyT P md ops Q S T fuel listed a w rs) : wpAnyT P md ops Q S T (fuel + 1) listed a w := ⟨fun h0 => absurd (hr ▸ h0) hne, hr ▸ h⟩
end
end Go.Proofs.Ytpknondccajinaa
end

section
/-
  A region that draws its order and stores, at its end, into cells that it loads: outside of a fence. No function of the program is named.
-/
namespace Go.Proofs.Ytpknondccajinaa

theorem one_only {p : Nat → Prop} (a : Nat) (ha : p a) : ∀ j, (j == a) = true → p j := fun j hj => by
  rw [beq_iff_eq] at hj
  subst hj
  exact ha
theorem wp_region_T {P : Program} {id : Nat} {ops : Array Oper} {Q : Exit → Act → World → Prop} {S : World → Prop} {T : Nat → Bool} {a : Act} {w : World} (hm : P.follows .mixedOrders = true) (hS : S w.drew)
    (h : S w.drew → wpAnyT P .any ops Q S T ops.size (Array.replicate ops.size false) a w.drew) : (Code.region id ops true).wp P Q a w := wp_region_any hm (wpAny_of_T _ _ _ _ (h hS))
end Go.Proofs.Ytpknondccajinaa
end

section
/-
  Chapter 12, in the model: a cell, the row that is least in a column, whether it is alone, marks.
-/
namespace Go.Proofs.Ytpknondccajinaa
set_option maxRecDepth 100000
open Go.RowKit

/-- Where a cell lies. -/
theorem cell_idx {R C i j : Nat} (hR : R ≤ 24) (hC : C ≤ 24) (hi : i < R) (hj : j < C) : i * C + j < R * C ∧ IntKind.i64.wrap ((i : Int) * (C : Int)) = (i : Int) * (C : Int) ∧ IntKind.i64.wrap ((i : Int) * (C : Int) + (j : Int)) = ((i * C + j : Nat) : Int) := by
  have h1 : i * C + j < R * C := idx_lt hi hj
  have h2 : R * C ≤ 24 * 24 := Nat.mul_le_mul hR hC
  have c1 : (i : Int) * (C : Int) = ((i * C : Nat) : Int) := (Int.natCast_mul _ _).symm
  refine ⟨h1, IntWalk.i64_in _ (by rw [c1]; omega), ?_⟩
  rw [show (i : Int) * (C : Int) + (j : Int) = ((i * C + j : Nat) : Int) by rw [c1]; omega]
  exact IntWalk.i64_in _ (by omega)
theorem sAbsN (n : Int) (w : World) (h1 : -4000000000000000000 ≤ n) (h2 : n ≤ 4000000000000000000) : Calls Try.prog 90 #[.int .i64 n] w (Gives (.int .i64 (n.natAbs : Int)) w) := by
  by_cases hn : 0 ≤ n
  · refine (sAbs_p n w hn (by omega)).mono ?_
    rintro e w' ⟨rfl, rfl⟩
    exact ⟨by rw [show ((n.natAbs : Nat) : Int) = n by omega], Below.refl _ _⟩
  · have := sAbs_n (-n) w (by omega) (by omega)
    rw [Int.neg_neg] at this
    refine this.mono ?_
    rintro e w' ⟨rfl, rfl⟩
    exact ⟨by rw [show ((n.natAbs : Nat) : Int) = -n by omega], Below.refl _ _⟩
set_option maxHeartbeats 1000000 in
theorem sCel (R C : Nat) (a : Option Addr) (n m i j : Nat) (xs : List Int) (w : World) (h : Rd w a xs) (hx : xs.length = n) (hn : n = R * C) (hR : R ≤ 24) (hC : C ≤ 24) (hi : i < R) (hj : j < C) :
    Calls Try.prog 62 #[.agg #[.int .i64 R, .int .i64 C, .slice a n m], .int .i64 i, .int .i64 j] w (Gives (.int .i64 (mxC C xs i j)) w) := by
  obtain ⟨x1, x2, x3⟩ := cell_idx hR hC hi hj
  have h := h.below ((Below.refl _ _).alloc (Nat.le_refl _) (.cells #[.int .i64 R, .int .i64 C, .slice a n m] 26))
  obtain ⟨b, o, rfl, hc⟩ := h (i * C + j) (by omega)
  have V : Hid (mxC C xs i j = xs.getD (i * C + j) 0) := rfl
  obtain ⟨x, hxx⟩ : ∃ x, xs.getD (i * C + j) 0 = x := ⟨_, rfl⟩
  obtain ⟨P, hP⟩ : ∃ P, i * C + j = P := ⟨_, rfl⟩
  rw [hxx] at hc V
  rw [hP] at hc x1 x3
  have P0 : (0 : Int) ≤ (P : Int) := by omega
  have P1 : (P : Int) < (n : Int) := by omega
  rw [V.out]
  clear h hx hxx hP V hn x1
  go_enter Try.func62, Try.ntmps62
  go_wp2_with fail
  go_ret
  exact ⟨rfl, by repeat (first | exact Below.refl _ _ | refine below_drewN ?_ _ | refine Below.alloc ?_ (by simp <;> omega) _)⟩
set_option maxHeartbeats 1000000 in
theorem sAlone (R C : Nat) (a : Option Addr) (n m p j t : Nat) (s : HSt) (w : World) (h : Rd w a s.1) (hx : s.1.length = n) (hn : n = R * C) (hR : R ≤ 24) (hC : C ≤ 24) (hj : j < C) (ht : t ≤ R) (hp : p < R) :
    Calls Try.prog 96 #[.agg #[.int .i64 R, .int .i64 C, .slice a n m], .int .i64 t, .int .i64 j, .int .i64 p] w (Gives (.bool (aloneB R C p j t s)) w) := by
  have K0 : Hid (Blk3 (w.alloc (.cells #[.int .i64 R, .int .i64 C, .slice a n m] 26)) w.heap.size 26 (.int .i64 R) (.int .i64 C) (.slice a n m)) := Blk3.at_ _ _ _ _ rfl
  have B0 : Hid (Below w.heap.size w (w.alloc (.cells #[.int .i64 R, .int .i64 C, .slice a n m] 26))) := (Below.refl _ _).alloc (Nat.le_refl _) _
  have CE : Hid (∀ i w', i < R → Below w.heap.size w w' → Calls Try.prog 62 #[.agg #[.int .i64 R, .int .i64 C, .slice a n m], .int .i64 i, .int .i64 j] w' (Gives (.int .i64 (celS C s i j)) w')) := fun i w' hi hb => sCel R C a n m i j s.1 w' (h.below hb) hx hn hR hC hi hj
  have VF : Hid (∀ i, i < R → t ≤ i → i ≠ p → celS C s i j ≠ 0 → aloneB R C p j t s = false) := fun i h1 h2 h3 h4 => aloneB_false h1 h2 h3 h4
  have VT : Hid ((∀ i, i < R → t ≤ i → i ≠ p → celS C s i j = 0) → aloneB R C p j t s = true) := aloneB_true
  generalize aloneB R C p j t s = bb at VF VT ⊢
  clear h hx hn
  go_enter Try.func96, Try.ntmps96
  go_wp2_with fail
  go_loopw [8, 9] (fun _ v9 wr => ∃ i : Nat, v9 = .int .i64 i ∧ t ≤ i ∧ i ≤ R ∧ (∀ k, t ≤ k → k < i → k ≠ p → celS C s k j = 0) ∧ Blk3 wr w.heap.size 26 (.int .i64 R) (.int .i64 C) (.slice a n m) ∧ Below w.heap.size w wr) (fun _ v9 _ => R - (intOf v9).toNat)
  case atStart => exact ⟨t, rfl, Nat.le_refl _, ht, fun k h1 h2 => by omega, K0.out, B0.out⟩
  case round =>
    clear K0 B0
    obtain ⟨i, rfl, hti, hi, hk, hK, hB⟩ := hrel
    have HK := Lib.hid hk
    have K := Lib.hid hK
    have B := Lib.hid hB
    clear hk hK hB
    obtain ⟨p0, p1, p2, -, -, -⟩ := K.out.all
    by_cases hlt : i < R
    · by_cases hip : i = p
      · have n1 : ((i : Int) != (p : Int)) = false := by simp [hip]
        have HK2 : Hid (∀ k, t ≤ k → k < i + 1 → k ≠ p → celS C s k j = 0) := fun k h1 h2 h3 => HK.out k h1 (by omega) h3
        clear hip
        go_wp2_with fail
        go_roundw
        case rel => exact ⟨i + 1, by go_num, by omega, by omega, HK2.out, K.out, B.out⟩
        case measure => simp [intOf]; omega
      · have n1 : ((i : Int) != (p : Int)) = true := by simp; omega
        have CI := Lib.hid (CE.out i wr hlt B.out)
        have VFi : Hid (celS C s i j ≠ 0 → bb = false) := fun h => VF.out i hlt hti hip h
        have HK2 : Hid (celS C s i j = 0 → ∀ k, t ≤ k → k < i + 1 → k ≠ p → celS C s k j = 0) := fun h0 k h1 h2 h3 => by
          rcases Nat.lt_or_ge k i with h4 | h4
          · exact HK.out k h1 h4 h3
          · obtain rfl : k = i := by omega
            exact h0
        generalize celS C s i j = z at CI VFi HK2
        clear hip
        go_wp2_with fail
        refine CI.out.mono ?_
        rintro e w3 ⟨rfl, hb3⟩
        have K3 := Lib.hid (K.out.step hb3)
        have B3 := Lib.hid (B.out.trans (hb3.mono B.out.size))
        clear hb3 CI p0 p1 p2
        by_cases hz : z = 0
        · have n2 : (z != 0) = false := by simp [hz]
          have HK3 := Lib.hid (HK2.out hz)
          clear hz
          go_wp2_with fail
          go_roundw
          case rel => exact ⟨i + 1, by go_num, by omega, by omega, HK3.out, K3.out, B3.out⟩
          case measure => simp [intOf]; omega
        · have n2 : (z != 0) = true := by simpa using hz
          have V := Lib.hid (VFi.out hz)
          clear hz
          go_wp2_with fail
          go_ret
          exact ⟨by rw [V.out]; rfl, B3.out⟩
    · obtain rfl : i = R := by omega
      have V := Lib.hid (VT.out fun k h1 h2 h3 => HK.out k h2 h1 h3)
      go_wp2_with fail
      go_ret
      exact ⟨by rw [V.out]; rfl, B.out⟩
set_option maxHeartbeats 2000000 in
/-- The box of the matrix, in every later world. -/
theorem leF {W w' : World} {b : Nat} {t : TypeId} {p q r : Value} (h0 : Blk3 W b t p q r) (hb : Below W.heap.size W w') : w'.cell? ⟨b, 0, none⟩ = some p ∧ w'.cell? ⟨b, 1, none⟩ = some q ∧ w'.cell? ⟨b, 2, none⟩ = some r := by
  obtain ⟨a1, a2, a3, -, -, -⟩ := (h0.step hb).all
  exact ⟨a1, a2, a3⟩
set_option maxHeartbeats 4000000 in
theorem sLeast (R C : Nat) (a : Option Addr) (n m j t : Nat) (s : HSt) (w : World) (h : Rd w a s.1) (hx : s.1.length = n) (hn : n = R * C) (hR : R ≤ 24) (hC : C ≤ 24) (hj : j < C) (ht : t ≤ R) (ho : nums s.1 = true) :
    Calls Try.prog 95 #[.agg #[.int .i64 R, .int .i64 C, .slice a n m], .int .i64 t, .int .i64 j] w (Gives (.int .i64 (leastS R C j t s)) w) := by
  have K0 : Hid (Blk3 (w.alloc (.cells #[.int .i64 R, .int .i64 C, .slice a n m] 26)) w.heap.size 26 (.int .i64 R) (.int .i64 C) (.slice a n m)) := Blk3.at_ _ _ _ _ rfl
  have B0 : Hid (Below w.heap.size w (w.alloc (.cells #[.int .i64 R, .int .i64 C, .slice a n m] 26))) := (Below.refl _ _).alloc (Nat.le_refl _) _
  have CE : Hid (∀ i w', i < R → Below w.heap.size w w' → Calls Try.prog 62 #[.agg #[.int .i64 R, .int .i64 C, .slice a n m], .int .i64 i, .int .i64 j] w' (Gives (.int .i64 (celS C s i j)) w')) := fun i w' hi hb => sCel R C a n m i j s.1 w' (h.below hb) hx hn hR hC hi hj
  have NU : Hid (∀ i, NumP (celS C s i j)) := fun i => nums_def ho _
  have LS : Hid (leastS R C j t s = leastF (fun i => celS C s i j) t (R - t)) := rfl
  have LF : Hid (∀ k, (leastF (fun i => celS C s i j) t k = -1) ∨ ∃ p : Nat, leastF (fun i => celS C s i j) t k = (p : Int) ∧ p < t + k) := fun k => by
    rcases leastF_says (fun i => celS C s i j) t k with ⟨h1, -⟩ | ⟨p, h1, -, h2, -⟩
    · exact .inl h1
    · exact .inr ⟨p, h1, h2⟩
  have LN : Hid (∀ k, leastF (fun i => celS C s i j) t (k + 1) = if celS C s (t + k) j ≠ 0 ∧ (leastF (fun i => celS C s i j) t k < 0 ∨ (celS C s (t + k) j).natAbs < (celS C s (leastF (fun i => celS C s i j) t k).toNat j).natAbs) then ((t + k : Nat) : Int) else leastF (fun i => celS C s i j) t k) := fun k => rfl
  obtain ⟨L, hL⟩ : ∃ L : Nat → Int, leastF (fun i => celS C s i j) t = L := ⟨_, rfl⟩
  rw [hL] at LS LF LN
  have L0 : Hid (L 0 = -1) := by refine Lib.hid ?_; rw [← hL]; rfl
  rw [LS.out]
  clear h hx hn ho hL LS
  go_enter Try.func95, Try.ntmps95
  go_wp2_with fail
  go_loopw [7, 8, 9] (fun v7 v8 _ wr => ∃ k : Nat, v7 = .int .i64 (L k) ∧ v8 = .int .i64 ((t + k : Nat) : Int) ∧ t + k ≤ R ∧ Blk3 wr w.heap.size 26 (.int .i64 R) (.int .i64 C) (.slice a n m) ∧ Below w.heap.size w wr) (fun _ v8 _ _ => R - (intOf v8).toNat)
  case atStart => exact ⟨0, by rw [L0.out], rfl, by omega, K0.out, B0.out⟩
  case round =>
    clear K0 B0
    obtain ⟨k, rfl, rfl, hk, hK, hB⟩ := hrel
    have K := Lib.hid hK
    have B := Lib.hid hB
    clear hK hB
    obtain ⟨p0, p1, p2, -, -, -⟩ := K.out.all
    by_cases hlt : t + k < R
    · have CI := Lib.hid (CE.out (t + k) wr hlt B.out)
      have NI := NU.out (t + k)
      have LI := Lib.hid (LN.out k)
      have LK := Lib.hid (LF.out k)
      obtain ⟨x, hx⟩ : ∃ x, celS C s (t + k) j = x := ⟨_, rfl⟩
      obtain ⟨T, hT⟩ : ∃ T, t + k = T := ⟨_, rfl⟩
      rw [hx] at CI NI LI
      rw [hT] at CI LI hlt ⊢
      have ET := Lib.hid hT
      clear hx hT
      obtain ⟨n1, n2⟩ := NI
      go_wp2_with fail
      refine CI.out.mono ?_
      rintro e w3 ⟨rfl, hb3⟩
      have K3 := Lib.hid (K.out.step hb3)
      have B3 := Lib.hid (B.out.trans (hb3.mono B.out.size))
      clear hb3 CI p0 p1 p2 K B
      by_cases hx0 : x = 0
      · have e1 : (x != 0) = false := by simp [hx0]
        have LE : Hid (L (k + 1) = L k) := by refine Lib.hid ?_; rw [LI.out, if_neg fun h => h.1 hx0]
        clear hx0
        go_wp2_with fail
        go_quiet (fail)
        go_wp2_with fail
        go_roundw
        case rel => exact ⟨k + 1, by rw [LE.out], by rw [← Nat.add_assoc, ET.out]; go_num, by have := ET.out; omega, K3.out.drewN nq, below_drewN B3.out nq⟩
        case measure => simp [intOf]; omega
      have e1 : (x != 0) = true := by simpa using hx0
      rcases LK.out with h1 | ⟨p, h1, h2⟩
      · have LE : Hid (L (k + 1) = T) := by refine Lib.hid ?_; rw [LI.out, if_pos ⟨hx0, .inl (by omega)⟩]
        rw [h1]
        clear hx0 h1
        go_wp2_with fail
        go_quiet (fail)
        go_wp2_with fail
        go_roundw
        case rel => exact ⟨k + 1, by rw [LE.out], by rw [← Nat.add_assoc, ET.out]; go_num, by have := ET.out; omega, K3.out.drewN nq, below_drewN B3.out nq⟩
        case measure => simp [intOf]; omega
      · rename World => wr
        have hpR : p < R := by have := ET.out; omega
        have CB : Hid (∀ w', Below wr.heap.size wr w' → Calls Try.prog 62 #[.agg #[.int .i64 R, .int .i64 C, .slice a n m], .int .i64 p, .int .i64 j] w' (Gives (.int .i64 (celS C s p j)) w')) := fun w' hb => CE.out p w' hpR (B3.out.trans (hb.mono B3.out.size))
        have NB := NU.out p
        rw [h1, Int.toNat_natCast] at LI
        rw [h1]
        obtain ⟨y, hy⟩ : ∃ y, celS C s p j = y := ⟨_, rfl⟩
        rw [hy] at CB NB LI
        obtain ⟨n3, n4⟩ := NB
        have AX : Hid (∀ w', Calls Try.prog 90 #[.int .i64 x] w' (Gives (.int .i64 (x.natAbs : Int)) w')) := fun w' => sAbsN x w' (by omega) (by omega)
        have AB : Hid (∀ w', Calls Try.prog 90 #[.int .i64 y] w' (Gives (.int .i64 (y.natAbs : Int)) w')) := fun w' => sAbsN y w' (by omega) (by omega)
        have p3 : ¬ (p : Int) < 0 := by omega
        have KI := K3
        clear hy
        by_cases hlt2 : x.natAbs < y.natAbs
        · have LE : Hid (L (k + 1) = T) := by refine Lib.hid ?_; rw [LI.out, if_pos ⟨hx0, .inr hlt2⟩]
          obtain ⟨ax, hax⟩ : ∃ z : Int, (x.natAbs : Int) = z := ⟨_, rfl⟩
          obtain ⟨ay, hay⟩ : ∃ z : Int, (y.natAbs : Int) = z := ⟨_, rfl⟩
          have l9 : ax < ay := by omega
          rw [hax] at AX
          rw [hay] at AB
          clear hx0 h1 hax hay hlt2
          go_wp2_with fail
          refine wp_region_T (S := fun w' => Below wr.heap.size wr w') (T := fun _ => false) (by kernel_rfl) (Below.refl _ _).drew (fun hH => ?_)
          refine wpAnyT_take (i := 0) (v := ?_) (by simp only [List.getElem?_toArray, List.getElem?_cons_zero]; rfl) (by kernel_rfl) (by kernel_rfl) (by kernel_rfl) (by kernel_rfl) (fun _ hj => by cases hj) (by exact fun _ _ _ h => h) (Or.inl ⟨by rfl, ?_⟩) hH ?_
          rotate_left
          · (intro wS hS; clear hS; go_simp; try rfl)
          try simp only [Act.put, List.setIfInBounds_toArray, List.set_cons_zero, List.set_cons_succ]
          refine wpAnyT_take (i := 1) (v := ?_) (by simp only [List.getElem?_toArray, List.getElem?_cons_succ, List.getElem?_cons_zero]; rfl) (by kernel_rfl) (by kernel_rfl) (by kernel_rfl) (by kernel_rfl) (fun _ hj => by cases hj) (by exact fun _ _ _ h => h) (Or.inl ⟨by rfl, ?_⟩) hH ?_
          rotate_left
          · (intro wS hS; clear hS; go_simp; try rfl)
          try simp only [Act.put, List.setIfInBounds_toArray, List.set_cons_zero, List.set_cons_succ]
          refine wpAnyT_take (i := 2) (v := ?_) (by simp only [List.getElem?_toArray, List.getElem?_cons_succ, List.getElem?_cons_zero]; rfl) (by kernel_rfl) (by kernel_rfl) (by kernel_rfl) (by kernel_rfl) (fun _ hj => by cases hj) (by exact fun _ _ _ h => h) (Or.inl ⟨by rfl, ?_⟩) hH ?_
          rotate_left
          · (intro wS hS; clear hS; go_simp; try rfl)
          try simp only [Act.put, List.setIfInBounds_toArray, List.set_cons_zero, List.set_cons_succ]
          refine wpAnyT_take (i := 3) (v := ?_) (by simp only [List.getElem?_toArray, List.getElem?_cons_succ, List.getElem?_cons_zero]; rfl) (by kernel_rfl) (by kernel_rfl) (by kernel_rfl) (by kernel_rfl) (fun _ hj => by cases hj) (by exact fun _ _ _ h => h) (Or.inl ⟨by rfl, ?_⟩) hH ?_
          rotate_left
          · (intro wS hS; clear hS; go_simp; try rfl)
          try simp only [Act.put, List.setIfInBounds_toArray, List.set_cons_zero, List.set_cons_succ]
          refine wpAnyT_take (i := 4) (v := ?_) (by simp only [List.getElem?_toArray, List.getElem?_cons_succ, List.getElem?_cons_zero]; rfl) (by kernel_rfl) (by kernel_rfl) (by kernel_rfl) (by kernel_rfl) (fun _ hj => by cases hj) (by exact fun _ _ _ h => h) (Or.inl ⟨by rfl, ?_⟩) hH ?_
          rotate_left
          · (intro wS hS; clear hS; go_simp; try rfl)
          try simp only [Act.put, List.setIfInBounds_toArray, List.set_cons_zero, List.set_cons_succ]
          refine wpAnyT_take (i := 5) (v := ?_) (by simp only [List.getElem?_toArray, List.getElem?_cons_succ, List.getElem?_cons_zero]; rfl) (by kernel_rfl) (by kernel_rfl) (by kernel_rfl) (by kernel_rfl) (fun _ hj => by cases hj) (by exact fun _ _ _ h => h) (Or.inl ⟨by rfl, ?_⟩) hH ?_
          rotate_left
          · (intro wS hS; clear hS; go_simp; try rfl)
          try simp only [Act.put, List.setIfInBounds_toArray, List.set_cons_zero, List.set_cons_succ]
          refine wpAnyT_take (i := 6) (v := ?_) (by simp only [List.getElem?_toArray, List.getElem?_cons_succ, List.getElem?_cons_zero]; rfl) (by kernel_rfl) (by kernel_rfl) (by kernel_rfl) (by kernel_rfl) (fun _ hj => by cases hj) (by exact fun _ _ _ h => h) (Or.inl ⟨by rfl, ?_⟩) hH ?_
          rotate_left
          · (intro wS hS; clear hS; go_simp; try rfl)
          try simp only [Act.put, List.setIfInBounds_toArray, List.set_cons_zero, List.set_cons_succ]
          refine wpAnyT_take (i := 8) (v := ?_) (by simp only [List.getElem?_toArray, List.getElem?_cons_succ, List.getElem?_cons_zero]; rfl) (by kernel_rfl) (by kernel_rfl) (by kernel_rfl) (by kernel_rfl) (fun _ hj => by cases hj) (by exact fun _ _ _ h => h) (Or.inl ⟨by rfl, ?_⟩) hH ?_
          rotate_left
          · (intro wS hS; (try dsimp only at hS); obtain ⟨k1, k2, k3⟩ := leF KI.out hS; go_simp; try rfl)
          try simp only [Act.put, List.setIfInBounds_toArray, List.set_cons_zero, List.set_cons_succ]
          refine wpAnyT_take (i := 9) (v := ?_) (by simp only [List.getElem?_toArray, List.getElem?_cons_succ, List.getElem?_cons_zero]; rfl) (by kernel_rfl) (by kernel_rfl) (by kernel_rfl) (by kernel_rfl) (fun _ hj => by cases hj) (by exact fun _ _ _ h => h) (Or.inl ⟨by rfl, ?_⟩) hH ?_
          rotate_left
          · (intro wS hS; clear hS; go_simp; try rfl)
          try simp only [Act.put, List.setIfInBounds_toArray, List.set_cons_zero, List.set_cons_succ]
          refine wpAnyT_take (i := 10) (v := ?_) (by simp only [List.getElem?_toArray, List.getElem?_cons_succ, List.getElem?_cons_zero]; rfl) (by kernel_rfl) (by kernel_rfl) (by kernel_rfl) (by kernel_rfl) (fun _ hj => by cases hj) (by exact fun _ _ _ h => h) (Or.inl ⟨by rfl, ?_⟩) hH ?_
          rotate_left
          · (intro wS hS; clear hS; go_simp; try rfl)
          try simp only [Act.put, List.setIfInBounds_toArray, List.set_cons_zero, List.set_cons_succ]
          refine wpAnyT_ready (rs := [7]) (by kernel_rfl) (by simp) ?_
          refine AllReadyT.cons (by simp only [List.getElem?_toArray, List.getElem?_cons_succ, List.getElem?_cons_zero]; rfl) (fun K hK => ?_) AllReadyT.nil
          go_simp
          (with_reducible refine (AX.out _).mono ?_)
          rintro e v1 ⟨rfl, hb1⟩
          try dsimp only
          refine hK.out _ _ (fun _ => hH.trans (hb1.mono hH.size)) ?_
          clear hK K
          have hH := hH.trans (hb1.mono hH.size)
          clear hb1
          try simp only [Act.put, List.setIfInBounds_toArray, List.set_cons_zero, List.set_cons_succ]
          refine wpAnyT_ready (rs := [11]) (by kernel_rfl) (by simp) ?_
          refine AllReadyT.cons (by simp only [List.getElem?_toArray, List.getElem?_cons_succ, List.getElem?_cons_zero]; rfl) (fun K hK => ?_) AllReadyT.nil
          go_simp
          (with_reducible refine (CB.out _ (hH.mono (Nat.le_refl _))).mono ?_)
          rintro e v2 ⟨rfl, hb2⟩
          try dsimp only
          refine hK.out _ _ (fun _ => hH.trans (hb2.mono hH.size)) ?_
          clear hK K
          have hH := hH.trans (hb2.mono hH.size)
          clear hb2
          try simp only [Act.put, List.setIfInBounds_toArray, List.set_cons_zero, List.set_cons_succ]
          refine wpAnyT_ready (rs := [12]) (by kernel_rfl) (by simp) ?_
          refine AllReadyT.cons (by simp only [List.getElem?_toArray, List.getElem?_cons_succ, List.getElem?_cons_zero]; rfl) (fun K hK => ?_) AllReadyT.nil
          go_simp
          (with_reducible refine (AB.out _).mono ?_)
          rintro e v3 ⟨rfl, hb3⟩
          try dsimp only
          refine hK.out _ _ (fun _ => hH.trans (hb3.mono hH.size)) ?_
          clear hK K
          have hH := hH.trans (hb3.mono hH.size)
          clear hb3
          try simp only [Act.put, List.setIfInBounds_toArray, List.set_cons_zero, List.set_cons_succ]
          refine wpAnyT_take (i := 13) (v := ?_) (by simp only [List.getElem?_toArray, List.getElem?_cons_succ, List.getElem?_cons_zero]; rfl) (by kernel_rfl) (by kernel_rfl) (by kernel_rfl) (by kernel_rfl) (fun _ hj => by cases hj) (by exact fun _ _ _ h => h) (Or.inl ⟨by rfl, ?_⟩) hH ?_
          rotate_left
          · (intro wS hS; clear hS; go_simp; try rfl)
          try simp only [Act.put, List.setIfInBounds_toArray, List.set_cons_zero, List.set_cons_succ]
          refine wpAnyT_take (i := 14) (v := ?_) (by simp only [List.getElem?_toArray, List.getElem?_cons_succ, List.getElem?_cons_zero]; rfl) (by kernel_rfl) (by kernel_rfl) (by kernel_rfl) (by kernel_rfl) (fun _ hj => by cases hj) (by exact fun _ _ _ h => h) (Or.inl ⟨by rfl, ?_⟩) hH ?_
          rotate_left
          · (intro wS hS; clear hS; go_simp; try rfl)
          try simp only [Act.put, List.setIfInBounds_toArray, List.set_cons_zero, List.set_cons_succ]
          refine wpAnyT_take (i := 15) (v := ?_) (by simp only [List.getElem?_toArray, List.getElem?_cons_succ, List.getElem?_cons_zero]; rfl) (by kernel_rfl) (by kernel_rfl) (by kernel_rfl) (by kernel_rfl) (fun _ hj => by cases hj) (by exact fun _ _ _ h => h) (Or.inl ⟨by rfl, ?_⟩) hH ?_
          rotate_left
          · (intro wS hS; clear hS; go_simp; try rfl)
          try simp only [Act.put, List.setIfInBounds_toArray, List.set_cons_zero, List.set_cons_succ]
          refine wpAnyT_done (by kernel_rfl) ?_ _
          go_wp2_with fail
          go_roundw
          case rel => exact ⟨k + 1, by rw [LE.out], by rw [← Nat.add_assoc, ET.out]; go_num, by have := ET.out; omega, K3.out.step hH, B3.out.trans (hH.mono B3.out.size)⟩
          case measure => simp [intOf]; omega
        · have LE : Hid (L (k + 1) = p) := by
            refine Lib.hid ?_
            rw [LI.out, if_neg]
            rintro ⟨-, h | h⟩
            · omega
            · exact hlt2 h
          obtain ⟨ax, hax⟩ : ∃ z : Int, (x.natAbs : Int) = z := ⟨_, rfl⟩
          obtain ⟨ay, hay⟩ : ∃ z : Int, (y.natAbs : Int) = z := ⟨_, rfl⟩
          have l9 : ¬ ax < ay := by omega
          rw [hax] at AX
          rw [hay] at AB
          clear hx0 h1 hax hay hlt2
          go_wp2_with fail
          refine wp_region_T (S := fun w' => Below wr.heap.size wr w') (T := fun _ => false) (by kernel_rfl) (Below.refl _ _).drew (fun hH => ?_)
          refine wpAnyT_take (i := 0) (v := ?_) (by simp only [List.getElem?_toArray, List.getElem?_cons_zero]; rfl) (by kernel_rfl) (by kernel_rfl) (by kernel_rfl) (by kernel_rfl) (fun _ hj => by cases hj) (by exact fun _ _ _ h => h) (Or.inl ⟨by rfl, ?_⟩) hH ?_
          rotate_left
          · (intro wS hS; clear hS; go_simp; try rfl)
          try simp only [Act.put, List.setIfInBounds_toArray, List.set_cons_zero, List.set_cons_succ]
          refine wpAnyT_take (i := 1) (v := ?_) (by simp only [List.getElem?_toArray, List.getElem?_cons_succ, List.getElem?_cons_zero]; rfl) (by kernel_rfl) (by kernel_rfl) (by kernel_rfl) (by kernel_rfl) (fun _ hj => by cases hj) (by exact fun _ _ _ h => h) (Or.inl ⟨by rfl, ?_⟩) hH ?_
          rotate_left
          · (intro wS hS; clear hS; go_simp; try rfl)
          try simp only [Act.put, List.setIfInBounds_toArray, List.set_cons_zero, List.set_cons_succ]
          refine wpAnyT_take (i := 2) (v := ?_) (by simp only [List.getElem?_toArray, List.getElem?_cons_succ, List.getElem?_cons_zero]; rfl) (by kernel_rfl) (by kernel_rfl) (by kernel_rfl) (by kernel_rfl) (fun _ hj => by cases hj) (by exact fun _ _ _ h => h) (Or.inl ⟨by rfl, ?_⟩) hH ?_
          rotate_left
          · (intro wS hS; clear hS; go_simp; try rfl)
          try simp only [Act.put, List.setIfInBounds_toArray, List.set_cons_zero, List.set_cons_succ]
          refine wpAnyT_take (i := 3) (v := ?_) (by simp only [List.getElem?_toArray, List.getElem?_cons_succ, List.getElem?_cons_zero]; rfl) (by kernel_rfl) (by kernel_rfl) (by kernel_rfl) (by kernel_rfl) (fun _ hj => by cases hj) (by exact fun _ _ _ h => h) (Or.inl ⟨by rfl, ?_⟩) hH ?_
          rotate_left
          · (intro wS hS; clear hS; go_simp; try rfl)
          try simp only [Act.put, List.setIfInBounds_toArray, List.set_cons_zero, List.set_cons_succ]
          refine wpAnyT_take (i := 4) (v := ?_) (by simp only [List.getElem?_toArray, List.getElem?_cons_succ, List.getElem?_cons_zero]; rfl) (by kernel_rfl) (by kernel_rfl) (by kernel_rfl) (by kernel_rfl) (fun _ hj => by cases hj) (by exact fun _ _ _ h => h) (Or.inl ⟨by rfl, ?_⟩) hH ?_
          rotate_left
          · (intro wS hS; clear hS; go_simp; try rfl)
          try simp only [Act.put, List.setIfInBounds_toArray, List.set_cons_zero, List.set_cons_succ]
          refine wpAnyT_take (i := 5) (v := ?_) (by simp only [List.getElem?_toArray, List.getElem?_cons_succ, List.getElem?_cons_zero]; rfl) (by kernel_rfl) (by kernel_rfl) (by kernel_rfl) (by kernel_rfl) (fun _ hj => by cases hj) (by exact fun _ _ _ h => h) (Or.inl ⟨by rfl, ?_⟩) hH ?_
          rotate_left
          · (intro wS hS; clear hS; go_simp; try rfl)
          try simp only [Act.put, List.setIfInBounds_toArray, List.set_cons_zero, List.set_cons_succ]
          refine wpAnyT_take (i := 6) (v := ?_) (by simp only [List.getElem?_toArray, List.getElem?_cons_succ, List.getElem?_cons_zero]; rfl) (by kernel_rfl) (by kernel_rfl) (by kernel_rfl) (by kernel_rfl) (fun _ hj => by cases hj) (by exact fun _ _ _ h => h) (Or.inl ⟨by rfl, ?_⟩) hH ?_
          rotate_left
          · (intro wS hS; clear hS; go_simp; try rfl)
          try simp only [Act.put, List.setIfInBounds_toArray, List.set_cons_zero, List.set_cons_succ]
          refine wpAnyT_take (i := 8) (v := ?_) (by simp only [List.getElem?_toArray, List.getElem?_cons_succ, List.getElem?_cons_zero]; rfl) (by kernel_rfl) (by kernel_rfl) (by kernel_rfl) (by kernel_rfl) (fun _ hj => by cases hj) (by exact fun _ _ _ h => h) (Or.inl ⟨by rfl, ?_⟩) hH ?_
          rotate_left
          · (intro wS hS; (try dsimp only at hS); obtain ⟨k1, k2, k3⟩ := leF KI.out hS; go_simp; try rfl)
          try simp only [Act.put, List.setIfInBounds_toArray, List.set_cons_zero, List.set_cons_succ]
          refine wpAnyT_take (i := 9) (v := ?_) (by simp only [List.getElem?_toArray, List.getElem?_cons_succ, List.getElem?_cons_zero]; rfl) (by kernel_rfl) (by kernel_rfl) (by kernel_rfl) (by kernel_rfl) (fun _ hj => by cases hj) (by exact fun _ _ _ h => h) (Or.inl ⟨by rfl, ?_⟩) hH ?_
          rotate_left
          · (intro wS hS; clear hS; go_simp; try rfl)
          try simp only [Act.put, List.setIfInBounds_toArray, List.set_cons_zero, List.set_cons_succ]
          refine wpAnyT_take (i := 10) (v := ?_) (by simp only [List.getElem?_toArray, List.getElem?_cons_succ, List.getElem?_cons_zero]; rfl) (by kernel_rfl) (by kernel_rfl) (by kernel_rfl) (by kernel_rfl) (fun _ hj => by cases hj) (by exact fun _ _ _ h => h) (Or.inl ⟨by rfl, ?_⟩) hH ?_
          rotate_left
          · (intro wS hS; clear hS; go_simp; try rfl)
          try simp only [Act.put, List.setIfInBounds_toArray, List.set_cons_zero, List.set_cons_succ]
          refine wpAnyT_ready (rs := [7]) (by kernel_rfl) (by simp) ?_
          refine AllReadyT.cons (by simp only [List.getElem?_toArray, List.getElem?_cons_succ, List.getElem?_cons_zero]; rfl) (fun K hK => ?_) AllReadyT.nil
          go_simp
          (with_reducible refine (AX.out _).mono ?_)
          rintro e v1 ⟨rfl, hb1⟩
          try dsimp only
          refine hK.out _ _ (fun _ => hH.trans (hb1.mono hH.size)) ?_
          clear hK K
          have hH := hH.trans (hb1.mono hH.size)
          clear hb1
          try simp only [Act.put, List.setIfInBounds_toArray, List.set_cons_zero, List.set_cons_succ]
          refine wpAnyT_ready (rs := [11]) (by kernel_rfl) (by simp) ?_
          refine AllReadyT.cons (by simp only [List.getElem?_toArray, List.getElem?_cons_succ, List.getElem?_cons_zero]; rfl) (fun K hK => ?_) AllReadyT.nil
          go_simp
          (with_reducible refine (CB.out _ (hH.mono (Nat.le_refl _))).mono ?_)
          rintro e v2 ⟨rfl, hb2⟩
          try dsimp only
          refine hK.out _ _ (fun _ => hH.trans (hb2.mono hH.size)) ?_
          clear hK K
          have hH := hH.trans (hb2.mono hH.size)
          clear hb2
          try simp only [Act.put, List.setIfInBounds_toArray, List.set_cons_zero, List.set_cons_succ]
          refine wpAnyT_ready (rs := [12]) (by kernel_rfl) (by simp) ?_
          refine AllReadyT.cons (by simp only [List.getElem?_toArray, List.getElem?_cons_succ, List.getElem?_cons_zero]; rfl) (fun K hK => ?_) AllReadyT.nil
          go_simp
          (with_reducible refine (AB.out _).mono ?_)
          rintro e v3 ⟨rfl, hb3⟩
          try dsimp only
          refine hK.out _ _ (fun _ => hH.trans (hb3.mono hH.size)) ?_
          clear hK K
          have hH := hH.trans (hb3.mono hH.size)
          clear hb3
          try simp only [Act.put, List.setIfInBounds_toArray, List.set_cons_zero, List.set_cons_succ]
          refine wpAnyT_take (i := 13) (v := ?_) (by simp only [List.getElem?_toArray, List.getElem?_cons_succ, List.getElem?_cons_zero]; rfl) (by kernel_rfl) (by kernel_rfl) (by kernel_rfl) (by kernel_rfl) (fun _ hj => by cases hj) (by exact fun _ _ _ h => h) (Or.inl ⟨by rfl, ?_⟩) hH ?_
          rotate_left
          · (intro wS hS; clear hS; go_simp; try rfl)
          try simp only [Act.put, List.setIfInBounds_toArray, List.set_cons_zero, List.set_cons_succ]
          refine wpAnyT_take (i := 14) (v := ?_) (by simp only [List.getElem?_toArray, List.getElem?_cons_succ, List.getElem?_cons_zero]; rfl) (by kernel_rfl) (by kernel_rfl) (by kernel_rfl) (by kernel_rfl) (fun _ hj => by cases hj) (by exact fun _ _ _ h => h) (Or.inl ⟨by rfl, ?_⟩) hH ?_
          rotate_left
          · (intro wS hS; clear hS; go_simp; try rfl)
          try simp only [Act.put, List.setIfInBounds_toArray, List.set_cons_zero, List.set_cons_succ]
          refine wpAnyT_take (i := 15) (v := ?_) (by simp only [List.getElem?_toArray, List.getElem?_cons_succ, List.getElem?_cons_zero]; rfl) (by kernel_rfl) (by kernel_rfl) (by kernel_rfl) (by kernel_rfl) (fun _ hj => by cases hj) (by exact fun _ _ _ h => h) (Or.inl ⟨by rfl, ?_⟩) hH ?_
          rotate_left
          · (intro wS hS; clear hS; go_simp; try rfl)
          try simp only [Act.put, List.setIfInBounds_toArray, List.set_cons_zero, List.set_cons_succ]
          refine wpAnyT_done (by kernel_rfl) ?_ _
          go_wp2_with fail
          go_roundw
          case rel => exact ⟨k + 1, by rw [LE.out], by rw [← Nat.add_assoc, ET.out]; go_num, by have := ET.out; omega, K3.out.step hH, B3.out.trans (hH.mono B3.out.size)⟩
          case measure => simp [intOf]; omega
    · have hke : Hid (k = R - t) := by show _ = _; omega
      go_wp2_with fail
      go_ret
      exact ⟨by rw [← hke.out]; rfl, B.out⟩
end Go.Proofs.Ytpknondccajinaa
end
