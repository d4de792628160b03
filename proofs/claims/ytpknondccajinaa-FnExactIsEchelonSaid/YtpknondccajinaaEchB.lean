/-
  Plain mathematics of chapter 7: telling an echelon form. Nothing of a program is used.
-/
import Derived.Test.YtpknondccajinaaRowTo
import Derived.Test.YtpknondccajinaaEchLaw
namespace Go.Proofs.Ytpknondccajinaa

/-- The first column of a row that is not 0 (k columns are left from j on); where there is none, their end. -/
def leadF (v : Nat → Int) : Nat → Nat → Nat
  | 0, j => j
  | k + 1, j => if v j = 0 then leadF v k (j + 1) else j
def leadC (c : Nat) (v : Nat → Int) : Nat := leadF v c 0
theorem leadF_eq {v : Nat → Int} : ∀ {k j q : Nat}, j ≤ q → q ≤ j + k → (∀ i, j ≤ i → i < q → v i = 0) → (q < j + k → v q ≠ 0) → leadF v k j = q := by
  intro k
  induction k with
  | zero => intro j q h1 h2 _ _; show j = q; omega
  | succ k ih =>
    intro j q h1 h2 hz hn
    show (if v j = 0 then leadF v k (j + 1) else j) = q
    rcases Nat.lt_or_ge j q with h | h
    · rw [if_pos (hz j (Nat.le_refl _) h)]
      exact ih (by omega) (by omega) (fun i h3 h4 => hz i (by omega) h4) (fun h3 => hn (by omega))
    · obtain rfl : j = q := by omega
      rw [if_neg (hn (by omega))]
theorem leadF_says {v : Nat → Int} : ∀ {k j : Nat}, j ≤ leadF v k j ∧ leadF v k j ≤ j + k ∧ (∀ i, j ≤ i → i < leadF v k j → v i = 0) ∧ (leadF v k j < j + k → v (leadF v k j) ≠ 0) := by
  intro k
  induction k with
  | zero => intro j; exact ⟨Nat.le_refl _, Nat.le_refl _, fun i h1 h2 => absurd h2 (by show ¬ i < j; omega), fun h => absurd h (by show ¬ j < j + 0; omega)⟩
  | succ k ih =>
    intro j
    by_cases h : v j = 0
    · have e : leadF v (k + 1) j = leadF v k (j + 1) := if_pos h
      rw [e]
      obtain ⟨h1, h2, h3, h4⟩ := ih (j := j + 1)
      refine ⟨by omega, by omega, fun i h5 h6 => ?_, fun h5 => h4 (by omega)⟩
      rcases Nat.lt_or_ge j i with h7 | h7
      · exact h3 i h7 h6
      · obtain rfl : i = j := by omega
        exact h
    · have e : leadF v (k + 1) j = j := if_neg h
      rw [e]
      exact ⟨Nat.le_refl _, by omega, fun i h1 h2 => by omega, fun _ => h⟩
theorem leadC_says (c : Nat) (v : Nat → Int) : leadC c v ≤ c ∧ (∀ i, i < leadC c v → v i = 0) ∧ (leadC c v < c → v (leadC c v) ≠ 0) := by
  obtain ⟨-, h2, h3, h4⟩ := leadF_says (v := v) (k := c) (j := 0)
  exact ⟨by show leadF v c 0 ≤ c; omega, fun i hi => h3 i (Nat.zero_le _) hi, fun h => h4 (by show leadF v c 0 < 0 + c; have : leadF v c 0 < c := h; omega)⟩
/-- What is wrong with row i, whose pivot is in column p, behind a row whose pivot is in column last. -/
def rowBad (c : Nat) (xs : List Int) (i : Nat) (last : Int) : Prop := leadC c (mxC c xs i) < c ∧ (last = c ∨ (leadC c (mxC c xs i) : Int) ≤ last ∨ mxC c xs i (leadC c (mxC c xs i)) < 0 ∨ gcdN c (mxC c xs i) ≠ 1)
def colBad (r c : Nat) (xs : List Int) (i : Nat) : Prop := leadC c (mxC c xs i) < c ∧ ∃ k, k < r ∧ k ≠ i ∧ mxC c xs k (leadC c (mxC c xs i)) ≠ 0
/-- k rows from row i on are those of an echelon form. -/
def EchB (r c : Nat) (xs : List Int) : Nat → Nat → Int → Prop
  | 0, _, _ => True
  | k + 1, i, last => ¬ rowBad c xs i last ∧ ¬ colBad r c xs i ∧ EchB r c xs k (i + 1) (leadC c (mxC c xs i))
theorem Ech.lead_at {r c t : Nat} {xs : List Int} {p : Nat → Nat} (h : Ech r c (mxC c xs) p t) {i : Nat} (hi : i < t) : leadC c (mxC c xs i) = p i :=
  leadF_eq (Nat.zero_le _) (by have := h.col i hi; omega) (fun j _ hj => h.left i j hi hj) (fun _ => by have := h.pos i hi; omega)
theorem Ech.lead_no {r c t : Nat} {xs : List Int} {p : Nat → Nat} (h : Ech r c (mxC c xs) p t) {i : Nat} (hi : t ≤ i) (hir : i < r) : leadC c (mxC c xs i) = c :=
  leadF_eq (Nat.zero_le _) (by omega) (fun j _ hj => h.rest i j hi hir hj) (fun h => by omega)
theorem Ech.echB {r c t : Nat} {xs : List Int} {p : Nat → Nat} (h : Ech r c (mxC c xs) p t) (hn : ∀ i, i < r → Norm c (mxC c xs i)) : ∀ (k i : Nat) (last : Int), i + k = r → (i < t → last < p i ∧ last ≠ c) → EchB r c xs k i last := by
  intro k
  induction k with
  | zero => intro i last _ _; trivial
  | succ k ih =>
    intro i last hik hl
    have hir : i < r := by omega
    rcases Nat.lt_or_ge i t with hit | hit
    · obtain ⟨h1, h2⟩ := hl hit
      have e := h.lead_at hit
      have hc := h.col i hit
      have hp := h.pos i hit
      refine ⟨?_, ?_, ?_⟩
      · rintro ⟨-, hb⟩
        rw [e] at hb
        rcases hb with h3 | h3 | h3 | h3
        · exact h2 h3
        · omega
        · omega
        · exact h3 ((hn i hir).1.resolve_left fun h4 => by have := gcdN_none h4 _ hc; omega)
      · rintro ⟨-, k', h3, h4, h5⟩
        rw [e] at h5
        exact h5 (h.only i k' hit h3 h4)
      · rw [e]
        refine ih (i + 1) _ (by omega) fun h3 => ?_
        have := h.inc i (i + 1) (by omega) h3
        omega
    · have e := h.lead_no hit hir
      refine ⟨fun hb => ?_, fun hb => ?_, ih (i + 1) _ (by omega) fun h3 => by omega⟩
      · have := hb.1; omega
      · have := hb.1; omega
/-- What is told to be an echelon form is one. -/
theorem EchB.ech {r c : Nat} {xs : List Int} : ∀ (k i : Nat) (last : Int), i + k = r → EchB r c xs k i last →
    (last = c → ∀ q j, i ≤ q → q < r → j < c → mxC c xs q j = 0) ∧ (∀ q, i ≤ q → q < r → leadC c (mxC c xs q) < c → last ≠ c ∧ last < leadC c (mxC c xs q)) ∧ (∀ q s, i ≤ q → q < s → s < r → leadC c (mxC c xs s) < c → leadC c (mxC c xs q) < leadC c (mxC c xs s)) ∧ (∀ q, i ≤ q → q < r → Norm c (mxC c xs q)) ∧ ∀ q s, i ≤ q → q < r → leadC c (mxC c xs q) < c → s < r → s ≠ q → mxC c xs s (leadC c (mxC c xs q)) = 0 := by
  intro k
  induction k with
  | zero => intro i last hik _; exact ⟨fun _ q j h1 h2 => by omega, fun q h1 h2 => by omega, fun q s h1 h2 h3 => by omega, fun q h1 h2 => by omega, fun q s h1 h2 => by omega⟩
  | succ k ih =>
    intro i last hik ⟨hrow, hcol, hrest⟩
    obtain ⟨g1, g2, g3, g4, g5⟩ := ih (i + 1) _ (by omega) hrest
    obtain ⟨l1, l2, l3⟩ := leadC_says c (mxC c xs i)
    have own : leadC c (mxC c xs i) < c → last ≠ c ∧ last < leadC c (mxC c xs i) ∧ 0 < mxC c xs i (leadC c (mxC c xs i)) ∧ gcdN c (mxC c xs i) = 1 := fun h => by
      have h0 := l3 h
      refine ⟨fun e => hrow ⟨h, .inl e⟩, ?_, ?_, ?_⟩
      · exact Int.not_le.mp fun e => hrow ⟨h, .inr (.inl e)⟩
      · have : ¬ mxC c xs i (leadC c (mxC c xs i)) < 0 := fun e => hrow ⟨h, .inr (.inr (.inl e))⟩
        omega
      · exact Classical.byContradiction fun e => hrow ⟨h, .inr (.inr (.inr e))⟩
    have full : leadC c (mxC c xs i) = c → ∀ q, i + 1 ≤ q → q < r → ¬ leadC c (mxC c xs q) < c := fun e q h1 h2 h3 => (g2 q h1 h2 h3).1 (by rw [e])
    refine ⟨fun e q j h1 h2 h3 => ?_, fun q h1 h2 h3 => ?_, fun q s h1 h2 h3 h4 => ?_, fun q h1 h2 => ?_, fun q s h1 h2 h3 h4 h5 => ?_⟩
    · have hi : leadC c (mxC c xs i) = c := by
        rcases Nat.lt_or_ge (leadC c (mxC c xs i)) c with h4 | h4
        · exact absurd e (own h4).1
        · omega
      rcases Nat.lt_or_ge i q with h4 | h4
      · exact g1 (by rw [hi]) q j h4 h2 h3
      · obtain rfl : q = i := by omega
        exact l2 j (by omega)
    · rcases Nat.lt_or_ge i q with h4 | h4
      · have h5 := g2 q h4 h2 h3
        have h6 : leadC c (mxC c xs i) < c := by
          rcases Nat.lt_or_ge (leadC c (mxC c xs i)) c with h7 | h7
          · exact h7
          · exact absurd h3 (full (by omega) q h4 h2)
        have h7 := own h6
        exact ⟨h7.1, by omega⟩
      · obtain rfl : q = i := by omega
        exact ⟨(own h3).1, (own h3).2.1⟩
    · rcases Nat.lt_or_ge i q with h5 | h5
      · exact g3 q s h5 h2 h3 h4
      · obtain rfl : q = i := by omega
        have := (g2 s h2 h3 h4).2
        omega
    · rcases Nat.lt_or_ge i q with h5 | h5
      · exact g4 q h5 h2
      · obtain rfl : q = i := by omega
        rcases Nat.lt_or_ge (leadC c (mxC c xs q)) c with h6 | h6
        · obtain ⟨-, -, h7, h8⟩ := own h6
          refine ⟨.inr h8, .inr ?_⟩
          rw [sgnN_first h6 l2 (by omega), if_neg (by omega)]
        · have hz : ∀ j, j < c → mxC c xs q j = 0 := fun j hj => l2 j (by omega)
          exact ⟨.inl (gcdN_all hz), .inl (sgnN_all hz)⟩
    · rcases Nat.lt_or_ge i q with h6 | h6
      · exact g5 q s h6 h2 h3 h4 h5
      · obtain rfl : q = i := by omega
        exact Classical.byContradiction fun h7 => hcol ⟨h3, s, h4, h5, h7⟩
/-- How many of the first rows are not zeros. -/
def topN (c : Nat) (xs : List Int) : Nat → Nat → Nat
  | 0, i => i
  | k + 1, i => if leadC c (mxC c xs i) < c then topN c xs k (i + 1) else i
theorem topN_says {c : Nat} {xs : List Int} : ∀ {k i : Nat}, i ≤ topN c xs k i ∧ topN c xs k i ≤ i + k ∧ (∀ q, i ≤ q → q < topN c xs k i → leadC c (mxC c xs q) < c) ∧ (topN c xs k i < i + k → ¬ leadC c (mxC c xs (topN c xs k i)) < c) := by
  intro k
  induction k with
  | zero => intro i; exact ⟨Nat.le_refl _, Nat.le_refl _, fun q h1 h2 => absurd h2 (by show ¬ q < i; omega), fun h => absurd h (by show ¬ i < i + 0; omega)⟩
  | succ k ih =>
    intro i
    by_cases h : leadC c (mxC c xs i) < c
    · have e : topN c xs (k + 1) i = topN c xs k (i + 1) := if_pos h
      rw [e]
      obtain ⟨h1, h2, h3, h4⟩ := ih (i := i + 1)
      refine ⟨by omega, by omega, fun q h5 h6 => ?_, fun h5 => h4 (by omega)⟩
      rcases Nat.lt_or_ge i q with h7 | h7
      · exact h3 q h7 h6
      · obtain rfl : q = i := by omega
        exact h
    · have e : topN c xs (k + 1) i = i := if_neg h
      rw [e]
      exact ⟨Nat.le_refl _, by omega, fun q h1 h2 => by omega, fun _ => h⟩
theorem EchB.all {r c : Nat} {xs : List Int} (h : EchB r c xs r 0 (-1)) : Ech r c (mxC c xs) (fun i => leadC c (mxC c xs i)) (topN c xs r 0) ∧ ∀ i, i < r → Norm c (mxC c xs i) := by
  obtain ⟨-, -, g3, g4, g5⟩ := EchB.ech r 0 (-1) (by omega) h
  obtain ⟨-, t2, t3, t4⟩ := topN_says (c := c) (xs := xs) (k := r) (i := 0)
  have lead0 : ∀ i j, j < leadC c (mxC c xs i) → mxC c xs i j = 0 := fun i j hj => (leadC_says c (mxC c xs i)).2.1 j hj
  refine ⟨⟨by omega, fun k hk => t3 k (Nat.zero_le _) hk, fun k l hkl hl => g3 k l (Nat.zero_le _) hkl (by omega) (t3 l (Nat.zero_le _) hl), fun k hk => ?_, fun k i hk hi hne => g5 k i (Nat.zero_le _) (by omega) (t3 k (Nat.zero_le _) hk) hi hne, fun k j hk hj => lead0 k j hj, fun i j hi hir hj => ?_, fun k hk => ?_⟩, fun i hi => g4 i (Nat.zero_le _) hi⟩
  · have h1 := t3 k (Nat.zero_le _) hk
    exact (g4 k (Nat.zero_le _) (by omega)).pos h1 (fun j hj => lead0 k j hj) ((leadC_says c (mxC c xs k)).2.2 h1)
  · have ht := t4 (by omega)
    rcases Nat.lt_or_ge (topN c xs r 0) i with h1 | h1
    · refine lead0 i j ?_
      rcases Nat.lt_or_ge (leadC c (mxC c xs i)) c with h2 | h2
      · have := g3 _ i (Nat.zero_le _) h1 hir h2
        omega
      · omega
    · obtain rfl : i = topN c xs r 0 := by omega
      exact lead0 _ j (by omega)
  · have h1 := t3 k (Nat.zero_le _) hk
    exact (g4 k (Nat.zero_le _) (by omega)).prim h1 ((leadC_says c (mxC c xs k)).2.2 h1)
/-- Just the echelon forms stay as they are. -/
theorem EchB_iff {r c : Nat} {xs : List Int} (hx : xs.length = r * c) (hn : nums xs = true) : EchB r c xs r 0 (-1) ↔ ∃ pv, echM r c xs = some (xs, pv) := by
  constructor
  · intro h
    obtain ⟨he, hm⟩ := EchB.all h
    refine ⟨(List.range (topN c xs r 0)).map fun i => leadC c (mxC c xs i), ?_⟩
    unfold echM
    rw [prTo_fix hx hm]
    exact echC_fix he c 0 0 (by omega) (Nat.zero_le _) (fun i hi => by omega) (fun _ => Nat.zero_le _)
  · rintro ⟨pv, h⟩
    obtain ⟨he, -, -, -, -, hm⟩ := echM_says hx hn h
    exact he.echB hm r 0 (-1) (by omega) fun _ => ⟨by omega, by omega⟩
end Go.Proofs.Ytpknondccajinaa
