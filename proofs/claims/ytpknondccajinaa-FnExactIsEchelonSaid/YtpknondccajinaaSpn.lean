/-
  Plain mathematics of chapter 7: what rows span over the rational numbers; echelon forms are unique. Nothing of a program is used.
-/
import Derived.Test.YtpknondccajinaaDet1
namespace Go.Proofs.Ytpknondccajinaa

/-- A multiple of v (not by 0) is a combination of the first r rows. -/
def InSp (r c : Nat) (A : Mx) (v : Nat → Int) : Prop := ∃ (d : Int) (k : Nat → Int), d ≠ 0 ∧ ∀ j, j < c → d * v j = sumN r fun i => k i * A i j
/-- Each of the first r rows of A is in the span of the first s rows of B. -/
def SubSp (r s c : Nat) (A B : Mx) : Prop := ∀ i, i < r → InSp s c B (A i)
theorem InSp.congr {r c : Nat} {A : Mx} {v u : Nat → Int} (h : InSp r c A v) (e : ∀ j, j < c → u j = v j) : InSp r c A u := by
  obtain ⟨d, k, hd, hk⟩ := h
  exact ⟨d, k, hd, fun j hj => by rw [e j hj]; exact hk j hj⟩
theorem InSp.row {r c i : Nat} {A : Mx} (hi : i < r) : InSp r c A (A i) := by
  refine ⟨1, fun k => if k = i then 1 else 0, by decide, fun j _ => ?_⟩
  rw [sumN_one hi (fun k _ hne => by show (if k = i then (1 : Int) else 0) * A k j = 0; rw [if_neg hne, Int.zero_mul])]
  show 1 * A i j = (if i = i then (1 : Int) else 0) * A i j
  rw [if_pos rfl]
theorem InSp.zero (r c : Nat) (A : Mx) : InSp r c A fun _ => 0 := ⟨1, fun _ => 0, by decide, fun j _ => by rw [sumN_all_zero (fun k _ => by rw [Int.zero_mul])]; rfl⟩
theorem InSp.add {r c : Nat} {A : Mx} {u v : Nat → Int} (h : InSp r c A u) (h' : InSp r c A v) (x y : Int) : InSp r c A fun j => x * u j + y * v j := by
  obtain ⟨d, k, hd, hk⟩ := h
  obtain ⟨e, l, he, hl⟩ := h'
  refine ⟨d * e, fun i => x * e * k i + y * d * l i, Int.mul_ne_zero hd he, fun j hj => ?_⟩
  have e1 : d * e * (x * u j + y * v j) = x * e * (d * u j) + y * d * (e * v j) := by grind
  rw [e1, hk j hj, hl j hj, sumN_mul_left, sumN_mul_left, ← sumN_add]
  exact sumN_congr fun i _ => by grind
theorem InSp.comb {r c : Nat} {A : Mx} {V : Mx} {k : Nat → Int} : ∀ {m : Nat}, (∀ i, i < m → InSp r c A (V i)) → InSp r c A fun j => sumN m fun i => k i * V i j := by
  intro m
  induction m with
  | zero => intro _; exact InSp.zero r c A
  | succ m ih =>
    intro h
    have := (ih fun i hi => h i (by omega)).add (h m (by omega)) 1 (k m)
    exact this.congr fun j _ => by show sumN m _ + k m * V m j = _; rw [Int.one_mul]
theorem InSp.of_mul {r c : Nat} {A : Mx} {v : Nat → Int} {d : Int} (hd : d ≠ 0) (h : InSp r c A fun j => d * v j) : InSp r c A v := by
  obtain ⟨e, k, he, hk⟩ := h
  exact ⟨e * d, k, Int.mul_ne_zero he hd, fun j hj => by rw [Int.mul_assoc]; exact hk j hj⟩
theorem SubSp.mem {r s c : Nat} {A B : Mx} (h : SubSp r s c A B) {v : Nat → Int} (hv : InSp r c A v) : InSp s c B v := by
  obtain ⟨d, k, hd, hk⟩ := hv
  exact InSp.of_mul hd ((InSp.comb (k := k) h).congr hk)
theorem SubSp.refl (r c : Nat) (A : Mx) : SubSp r r c A A := fun _ hi => InSp.row hi
theorem SubSp.trans {r s t c : Nat} {A B C : Mx} (h : SubSp r s c A B) (h' : SubSp s t c B C) : SubSp r t c A C := fun i hi => h'.mem (h i hi)
/-- Nothing but a unit divides all of the first c cells. -/
def Prim (c : Nat) (v : Nat → Int) : Prop := ∀ g : Int, 0 < g → (∀ j, j < c → g ∣ v j) → g = 1
/-- A reduced echelon form with t pivots in the columns p, its rows primitive. -/
structure Ech (r c : Nat) (A : Mx) (p : Nat → Nat) (t : Nat) : Prop where
  le : t ≤ r
  col : ∀ k, k < t → p k < c
  inc : ∀ k l, k < l → l < t → p k < p l
  pos : ∀ k, k < t → 0 < A k (p k)
  only : ∀ k i, k < t → i < r → i ≠ k → A i (p k) = 0
  left : ∀ k j, k < t → j < p k → A k j = 0
  rest : ∀ i j, t ≤ i → i < r → j < c → A i j = 0
  prim : ∀ k, k < t → Prim c (A k)
section
variable {r c t : Nat} {A : Mx} {p : Nat → Nat} {v : Nat → Int}
theorem Ech.coef (h : Ech r c A p t) {d : Int} {k : Nat → Int} (hk : ∀ j, j < c → d * v j = sumN r fun i => k i * A i j) {l : Nat} (hl : l < t) : d * v (p l) = k l * A l (p l) := by
  rw [hk _ (h.col l hl), sumN_one (a := l) (by have := h.le; omega) (fun i hi hne => by rw [h.only l i hl hi hne, Int.mul_zero])]
/-- The first cell of a vector of the span that is not 0 stands in a pivot's column. -/
theorem Ech.lead (h : Ech r c A p t) (hv : InSp r c A v) {j : Nat} (hj : j < c) (h0 : ∀ i, i < j → v i = 0) (hn : v j ≠ 0) : ∃ l, l < t ∧ p l = j := by
  obtain ⟨d, k, hd, hk⟩ := hv
  refine Classical.byContradiction fun hno => ?_
  have hall : ∀ l, l < t → p l ≠ j := fun l hl e => hno ⟨l, hl, e⟩
  have hs : d * v j = 0 := by
    rw [hk j hj]
    refine sumN_all_zero fun i hi => ?_
    rcases Nat.lt_or_ge i t with hit | hit
    · rcases Nat.lt_or_ge (p i) j with h1 | h1
      · have e := h.coef hk hit
        rw [h0 _ h1, Int.mul_zero] at e
        have := h.pos i hit
        rcases Int.mul_eq_zero.mp e.symm with h2 | h2
        · rw [h2, Int.zero_mul]
        · omega
      · have := hall i hit
        rw [h.left i j hit (by omega), Int.mul_zero]
    · rw [h.rest i j hit hi hj, Int.mul_zero]
  rcases Int.mul_eq_zero.mp hs with h1 | h1
  · exact hd h1
  · exact hn h1
theorem Ech.none (h : Ech r c A p t) (hv : InSp r c A v) (h0 : ∀ l, l < t → v (p l) = 0) : ∀ j, j < c → v j = 0 := by
  intro j
  induction j using Nat.strongRecOn with
  | ind j ih =>
    intro hj
    refine Classical.byContradiction fun hn => ?_
    obtain ⟨l, hl, e⟩ := h.lead hv hj (fun i hi => ih i hi (by omega)) hn
    exact hn (by rw [← e]; exact h0 l hl)
end
/-- Two rising lists of which each number of the one is one of the other. -/
theorem inc_at {t s : Nat} {p q : Nat → Nat} (hp : ∀ k l, k < l → l < t → p k < p l) (hq : ∀ k l, k < l → l < s → q k < q l) (h : ∀ k, k < t → ∃ l, l < s ∧ q l = p k) : ∀ k, k < t → ∃ l, k ≤ l ∧ l < s ∧ q l = p k := by
  intro k
  induction k with
  | zero => intro hk; obtain ⟨l, h1, h2⟩ := h 0 hk; exact ⟨l, by omega, h1, h2⟩
  | succ k ih =>
    intro hk
    obtain ⟨l, h1, h2, h3⟩ := ih (by omega)
    obtain ⟨l', h4, h5⟩ := h (k + 1) hk
    refine ⟨l', ?_, h4, h5⟩
    have hlt := hp k (k + 1) (by omega) hk
    rcases Nat.lt_trichotomy l l' with h6 | h6 | h6
    · omega
    · subst h6; omega
    · have := hq l' l h6 h2; omega
theorem inc_le {t s : Nat} {p q : Nat → Nat} (hp : ∀ k l, k < l → l < t → p k < p l) (hq : ∀ k l, k < l → l < s → q k < q l) (h : ∀ k, k < t → ∃ l, l < s ∧ q l = p k) : t ≤ s := by
  rcases Nat.eq_zero_or_pos t with h0 | h0
  · omega
  · obtain ⟨l, h1, h2, -⟩ := inc_at hp hq h (t - 1) (by omega)
    omega
theorem inc_eq {t : Nat} {p q : Nat → Nat} (hp : ∀ k l, k < l → l < t → p k < p l) (hq : ∀ k l, k < l → l < t → q k < q l) (h : ∀ k, k < t → ∃ l, l < t ∧ q l = p k) : ∀ m k, k + m = t → 0 < m → q k = p k := by
  intro m
  induction m with
  | zero => intro k _ h0; omega
  | succ m ih =>
    intro k hk _
    obtain ⟨l, h1, h2, h3⟩ := inc_at hp hq h k (by omega)
    rcases Nat.lt_or_ge k l with h4 | h4
    · -- l is behind k: p l is met behind l
      have h5 := ih (k + 1) (by omega) (by omega)
      have h6 := hp k (k + 1) (by omega) (by omega)
      rcases Nat.lt_or_ge (k + 1) l with h7 | h7
      · have := hq (k + 1) l h7 h2; omega
      · obtain rfl : l = k + 1 := by omega
        omega
    · obtain rfl : l = k := by omega
      exact h3
theorem Ech.head {r c t : Nat} {A : Mx} {p : Nat → Nat} (h : Ech r c A p t) {s s' : Nat} {B : Mx} {q : Nat → Nat} (hB : Ech s c B q s') (hs : SubSp r s c A B) : ∀ k, k < t → ∃ l, l < s' ∧ q l = p k := fun k hk =>
  hB.lead (hs k (by have := h.le; omega)) (h.col k hk) (fun i hi => h.left k i hk hi) (by have := h.pos k hk; omega)
theorem Ech.count {r c t : Nat} {A : Mx} {p : Nat → Nat} (h : Ech r c A p t) {s s' : Nat} {B : Mx} {q : Nat → Nat} (hB : Ech s c B q s') (hs : SubSp r s c A B) : t ≤ s' := inc_le h.inc hB.inc (h.head hB hs)
theorem Ech.cols {r c t : Nat} {A : Mx} {p : Nat → Nat} (h : Ech r c A p t) {s : Nat} {B : Mx} {q : Nat → Nat} (hB : Ech s c B q t) (hs : SubSp r s c A B) : ∀ k, k < t → q k = p k := fun k hk => inc_eq h.inc hB.inc (h.head hB hs) (t - k) k (by omega) (by omega)
/-- Of one space inside another with as many pivots, both are one. -/
theorem Ech.whole {r c t : Nat} {A : Mx} {p : Nat → Nat} (h : Ech r c A p t) {s : Nat} {B : Mx} {q : Nat → Nat} (hB : Ech s c B q t) (hs : SubSp r s c A B) : SubSp s r c B A := fun i hi => by
  have hc := h.cols hB hs
  rcases Nat.lt_or_ge i t with hit | hit
  · have hir : i < r := by have := h.le; omega
    have hw : InSp s c B fun j => A i (p i) * B i j + -(B i (p i)) * A i j := (InSp.row hi).add (hs i hir) _ _
    have h0 := hB.none hw (fun l hl => by
      rw [hc l hl]
      by_cases e : l = i
      · subst e; grind
      · have e1 := h.only l i hl hir (fun h => e h.symm)
        have e2 := hB.only l i hl hi (fun h => e h.symm)
        rw [hc l hl] at e2
        rw [e1, e2]; simp)
    have hp := h.pos i hit
    refine InSp.of_mul (d := A i (p i)) (by omega) (((InSp.row (c := c) hir).add (InSp.zero r c A) (B i (p i)) 0).congr fun j hj => ?_)
    have := h0 j hj
    grind
  · exact (InSp.zero r c A).congr fun j hj => hB.rest i j hit hi hj
theorem prim_scale {c : Nat} {u v : Nat → Int} {x y : Int} (hu : Prim c u) (hv : Prim c v) (hx : 0 < x) (hy : 0 < y) (h : ∀ j, j < c → x * u j = y * v j) : ∀ j, j < c → u j = v j := by
  -- both multipliers without their common divisor
  have key : ∀ {u v : Nat → Int} {x y : Int}, Prim c v → 0 < x → 0 < y → (∀ j, j < c → x * u j = y * v j) → x ∣ y := fun {u v x y} hv hx hy h => by
    obtain ⟨g, hg⟩ : ∃ g, (Int.gcd x y : Int) = g := ⟨_, rfl⟩
    have g0 : 0 < g := by rw [← hg]; have := Int.gcd_pos_of_ne_zero_left y (show x ≠ 0 by omega); omega
    obtain ⟨x', hx'⟩ : g ∣ x := by rw [← hg]; exact Int.gcd_dvd_left ..
    obtain ⟨y', hy'⟩ : g ∣ y := by rw [← hg]; exact Int.gcd_dvd_right ..
    have x0 : 0 < x' := by
      rw [hx'] at hx
      exact Int.pos_of_mul_pos_right hx g0
    have cop : Int.gcd x' y' = 1 := by
      have e : (Int.gcd (g * x') (g * y') : Int) = g := by rw [← hx', ← hy']; exact hg
      rw [Int.gcd_mul_left] at e
      have e2 : (g.natAbs : Int) = g := by omega
      have : (g.natAbs : Int) * (Int.gcd x' y' : Int) = g := by rw [← Int.natCast_mul]; exact e
      rw [e2] at this
      have h3 : g * (Int.gcd x' y' : Int) = g * 1 := by rw [this, Int.mul_one]
      have := Int.eq_of_mul_eq_mul_left (by omega) h3
      omega
    have dv : ∀ j, j < c → x' ∣ v j := fun j hj => by
      have e := h j hj
      rw [hx', hy', Int.mul_assoc, Int.mul_assoc] at e
      have e2 := Int.eq_of_mul_eq_mul_left (show g ≠ 0 by omega) e
      have : x' ∣ y' * v j := ⟨u j, e2.symm⟩
      have h1 : x'.natAbs ∣ y'.natAbs * (v j).natAbs := by rw [← Int.natAbs_mul]; exact Int.natAbs_dvd_natAbs.mpr this
      exact Int.natAbs_dvd_natAbs.mp (Nat.Coprime.dvd_of_dvd_mul_left cop h1)
    have := hv x' x0 dv
    rw [hx', this, Int.mul_one]
    exact ⟨y', hy'⟩
  have h1 : x ∣ y := key hv hx hy h
  have h2 : y ∣ x := key hu hy hx fun j hj => (h j hj).symm
  have e : x = y := by
    have a1 := Int.le_of_dvd hy h1
    have a2 := Int.le_of_dvd hx h2
    omega
  intro j hj
  have := h j hj
  rw [e] at this
  exact Int.eq_of_mul_eq_mul_left (by omega) this
/-- Echelon forms of one space are equal. -/
theorem Ech.uniq {r c t : Nat} {A : Mx} {p : Nat → Nat} (h : Ech r c A p t) {s t' : Nat} {B : Mx} {q : Nat → Nat} (hB : Ech s c B q t') (hs : SubSp r s c A B) (hs' : SubSp s r c B A) : t = t' ∧ (∀ k, k < t → q k = p k) ∧ ∀ k j, k < t → j < c → B k j = A k j := by
  have e1 := h.count hB hs
  have e2 := hB.count h hs'
  obtain rfl : t = t' := by omega
  have hc := h.cols hB hs
  refine ⟨rfl, hc, fun k j hk hj => ?_⟩
  have hkr : k < r := by have := h.le; omega
  have hks : k < s := by have := hB.le; omega
  have hw : InSp s c B fun j => A k (p k) * B k j + -(B k (p k)) * A k j := (InSp.row hks).add (hs k hkr) _ _
  have h0 := hB.none hw (fun l hl => by
    rw [hc l hl]
    by_cases e : l = k
    · subst e; grind
    · have e1 := h.only l k hl hkr (fun h => e h.symm)
      have e2 := hB.only l k hl hks (fun h => e h.symm)
      rw [hc l hl] at e2
      rw [e1, e2]; simp)
  have hp := h.pos k hk
  have hq := hB.pos k hk
  rw [hc k hk] at hq
  exact prim_scale (hB.prim k hk) (h.prim k hk) hp hq (fun j hj => by have := h0 j hj; grind) j hj
end Go.Proofs.Ytpknondccajinaa
