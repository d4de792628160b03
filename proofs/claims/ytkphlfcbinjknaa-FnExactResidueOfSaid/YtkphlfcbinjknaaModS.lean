/-
  Plain mathematics of chapter 8: spans over residues; reduced forms. Nothing of a program is used.
-/
import Derived.Test.YtkphlfcbinjknaaModM
import Derived.Test.YtkphlfcbinjknaaSpn
namespace Go.Proofs.Ytkphlfcbinjknaa

/-- A row is a combination of the rows of A, over the residues. -/
def InP (p : Int) (r c : Nat) (A : Mx) (v : Nat → Int) : Prop := ∃ k : Nat → Int, ∀ j, j < c → Cg p (v j) (sumN r fun i => k i * A i j)
/-- Each row of A is one of B. -/
def SubP (p : Int) (r s c : Nat) (A B : Mx) : Prop := ∀ i, i < r → InP p s c B (A i)
section
variable {p : Int} {r s t c : Nat} {A B C : Mx} {u v : Nat → Int}
theorem InP.congr (h : InP p r c A v) (e : ∀ j, j < c → Cg p (u j) (v j)) : InP p r c A u := by
  obtain ⟨k, hk⟩ := h
  exact ⟨k, fun j hj => (e j hj).trans (hk j hj)⟩
theorem sumN_unit {n a : Nat} (ha : a < n) (f : Nat → Int) : (sumN n fun i => (if i = a then 1 else 0) * f i) = f a := by
  rw [sumN_one (a := a) ha (fun i hi hne => by rw [if_neg hne, Int.zero_mul]), if_pos rfl, Int.one_mul]
theorem InP.row {i : Nat} (hi : i < r) : InP p r c A (A i) := ⟨fun k => if k = i then 1 else 0, fun j _ => Cg.of_eq (sumN_unit hi fun k => A k j).symm⟩
theorem InP.zero : InP p r c A fun _ => 0 := ⟨fun _ => 0, fun j _ => Cg.of_eq (by rw [sumN_all_zero fun k _ => Int.zero_mul _])⟩
theorem InP.add (h : InP p r c A u) (h' : InP p r c A v) (x y : Int) : InP p r c A fun j => x * u j + y * v j := by
  obtain ⟨k, hk⟩ := h
  obtain ⟨l, hl⟩ := h'
  refine ⟨fun i => x * k i + y * l i, fun j hj => (((hk j hj).mul_left x).add ((hl j hj).mul_left y)).trans (Cg.of_eq ?_)⟩
  rw [sumN_mul_left, sumN_mul_left, ← sumN_add]
  exact sumN_congr fun i _ => by grind
theorem InP.comb {V : Mx} {k : Nat → Int} : ∀ {m : Nat}, (∀ i, i < m → InP p r c A (V i)) → InP p r c A fun j => sumN m fun i => k i * V i j := by
  intro m
  induction m with
  | zero => intro _; exact InP.zero
  | succ m ih => intro h; exact ((ih fun i hi => h i (by omega)).add (h m (by omega)) 1 (k m)).congr fun j _ => Cg.of_eq (by show (sumN m fun i => k i * V i j) + k m * V m j = _; rw [Int.one_mul])
theorem SubP.mem (h : SubP p r s c A B) (hv : InP p r c A v) : InP p s c B v := by
  obtain ⟨k, hk⟩ := hv
  exact (InP.comb (k := k) h).congr hk
theorem SubP.refl (p : Int) (r c : Nat) (A : Mx) : SubP p r r c A A := fun _ hi => InP.row hi
theorem SubP.trans (h : SubP p r s c A B) (h' : SubP p s t c B C) : SubP p r t c A C := fun i hi => h'.mem (h i hi)
theorem SubP.of_cg (h : ∀ i j, i < r → j < c → Cg p (A i j) (B i j)) : SubP p r r c A B := fun i hi => (InP.row hi).congr fun j hj => h i j hi hj
end
/-- The first n columns are those of a reduced form with t pivots in the columns q. -/
structure RefP (r n : Nat) (A : Mx) (q : Nat → Nat) (t : Nat) : Prop where
  le : t ≤ r
  col : ∀ k, k < t → q k < n
  inc : ∀ k l, k < l → l < t → q k < q l
  one : ∀ k, k < t → A k (q k) = 1
  only : ∀ k i, k < t → i < r → i ≠ k → A i (q k) = 0
  left : ∀ k j, k < t → j < q k → A k j = 0
  rest : ∀ i j, t ≤ i → i < r → j < n → A i j = 0
section
variable {p : Int} {r n t : Nat} {A : Mx} {q : Nat → Nat} {v : Nat → Int}
theorem RefP.coef (h : RefP r n A q t) {k : Nat → Int} (hk : ∀ j, j < n → Cg p (v j) (sumN r fun i => k i * A i j)) {l : Nat} (hl : l < t) : Cg p (v (q l)) (k l) :=
  (hk _ (h.col l hl)).trans (Cg.of_eq (by rw [sumN_one (a := l) (by have := h.le; omega) (fun i hi hne => by rw [h.only l i hl hi hne, Int.mul_zero]), h.one l hl, Int.mul_one]))
theorem RefP.lead (h : RefP r n A q t) (hv : InP p r n A v) {j : Nat} (hj : j < n) (h0 : ∀ i, i < j → Cg p (v i) 0) (hn : ¬ Cg p (v j) 0) : ∃ l, l < t ∧ q l = j := by
  obtain ⟨k, hk⟩ := hv
  refine Classical.byContradiction fun hno => hn ?_
  have hall : ∀ l, l < t → q l ≠ j := fun l hl e => hno ⟨l, hl, e⟩
  refine (hk j hj).trans ?_
  have e0 : (sumN r fun _ => (0 : Int)) = 0 := sumN_zero r
  rw [← e0]
  refine Cg.sum fun i hi => ?_
  rcases Nat.lt_or_ge i t with hit | hit
  · rcases Nat.lt_or_ge (q i) j with h1 | h1
    · have e := (h.coef hk hit).symm.trans (h0 _ h1)
      exact (e.mul (Cg.refl p (A i j))).trans (Cg.of_eq (Int.zero_mul _))
    · have := hall i hit
      rw [h.left i j hit (by omega), Int.mul_zero]
      exact Cg.refl _ _
  · rw [h.rest i j hit hi hj, Int.mul_zero]
    exact Cg.refl _ _
theorem RefP.head (hp : Prm p) {s s' : Nat} {B : Mx} {q' : Nat → Nat} (h : RefP r n A q t) (hB : RefP s n B q' s') (hs : SubP p r s n A B) : ∀ k, k < t → ∃ l, l < s' ∧ q' l = q k := fun k hk =>
  hB.lead (hs k (by have := h.le; omega)) (h.col k hk) (fun i hi => Cg.of_eq (h.left k i hk hi)) (fun e => hp.one (by rw [h.one k hk] at e; exact Cg.zero.mp e))
theorem RefP.count (hp : Prm p) {s s' : Nat} {B : Mx} {q' : Nat → Nat} (h : RefP r n A q t) (hB : RefP s n B q' s') (hs : SubP p r s n A B) : t ≤ s' := inc_le h.inc hB.inc (h.head hp hB hs)
theorem RefP.cols (hp : Prm p) {s : Nat} {B : Mx} {q' : Nat → Nat} (h : RefP r n A q t) (hB : RefP s n B q' t) (hs : SubP p r s n A B) : ∀ k, k < t → q' k = q k := fun k hk => inc_eq h.inc hB.inc (h.head hp hB hs) (t - k) k (by omega) (by omega)
/-- The rows with pivots are the only ones of their span. -/
theorem RefP.uniq (hp : Prm p) {s t' : Nat} {B : Mx} {q' : Nat → Nat} (h : RefP r n A q t) (hB : RefP s n B q' t') (hs : SubP p r s n A B) (hs' : SubP p s r n B A) : t = t' ∧ (∀ k, k < t → q' k = q k) ∧ ∀ k j, k < t → j < n → Cg p (A k j) (B k j) := by
  have h1 := h.count hp hB hs
  have h2 := hB.count hp h hs'
  obtain rfl : t = t' := by omega
  have hc := h.cols hp hB hs
  refine ⟨rfl, hc, fun k j hk hj => ?_⟩
  obtain ⟨l, hl⟩ := hs k (by have := h.le; omega)
  refine (hl j hj).trans ?_
  have e : ∀ i, i < t → Cg p (l i) (if i = k then 1 else 0) := fun i hi => by
    have e1 := (hB.coef hl hi).symm
    rw [hc i hi] at e1
    refine e1.trans (Cg.of_eq ?_)
    by_cases hik : i = k
    · rw [if_pos hik, hik, h.one k hk]
    · rw [if_neg hik, h.only i k hi (by have := h.le; omega) (fun e => hik e.symm)]
  refine (Cg.sum (g := fun i => (if i = k then 1 else 0) * B i j) fun i hi => ?_).trans (Cg.of_eq (sumN_unit (by have := hB.le; omega) fun i => B i j))
  rcases Nat.lt_or_ge i t with hit | hit
  · exact (e i hit).mul (Cg.refl _ _)
  · rw [hB.rest i j hit hi hj, Int.mul_zero, Int.mul_zero]
    exact Cg.refl _ _
end
end Go.Proofs.Ytkphlfcbinjknaa
