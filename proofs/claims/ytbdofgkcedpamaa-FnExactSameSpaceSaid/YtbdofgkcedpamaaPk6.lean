/-
  Texts of this seat, joined: EchB · SgMath · NumGD · LdI · PmI · PvR · SwR · NumGcd · ClI · EcI · EcJ · ErI · ShelfE · Same
-/
import Derived.Test.YtbdofgkcedpamaaRows
import Derived.WalkKit
import Derived.BigQuiet
import Derived.Deep.QuietTactic
import Derived.Lib.Hide
import Derived.Deep.DeepCutAuto
import Derived.IntWalk
import Derived.StillTailTactics
import Derived.Deep.RegionHeld3
import Derived.Shelf.Slices.Equal
import Derived.Ground.Names2Prog
import Derived.Shelf.Slices.Clone
import Derived.Shelf.Slices.Empties2
import Derived.Test.YtbdofgkcedpamaaProg
import Derived.Test.YtbdofgkcedpamaaPk1
import Derived.Test.YtbdofgkcedpamaaPk2
import Derived.Test.YtbdofgkcedpamaaPk3
import Derived.Test.YtbdofgkcedpamaaPk5

section
/-
  Plain mathematics of chapter 7: telling an echelon form. Nothing of a program is used.
-/
namespace Go.Proofs.Ytbdofgkcedpamaa

/-- The first column of a row that is not 0 (k columns are left from j on); where there is none, their end. -/
def leadF (v : Nat → Int) : Nat → Nat → Nat
  | 0, j => j
  | k + 1, j => if v j = 0 then leadF v k (j + 1) else j
def leadC (c : Nat) (v : Nat → Int) : Nat := leadF v c 0
theorem leadF_eq {v : Nat → Int} : ∀ {k j q : Nat}, j ≤ q → q ≤ j + k → (∀ i, j ≤ i → i < q → v i = 0) → (q < j + k → v q ≠ 0) → leadF v k j = q := by
  intro k
  induction k with
  | zero => intro j q h1 h2 _ _; show j = q; omega
  | succ k ih =>
    intro j q h1 h2 hz hn
    show (if v j = 0 then leadF v k (j + 1) else j) = q
    rcases Nat.lt_or_ge j q with h | h
    · rw [if_pos (hz j (Nat.le_refl _) h)]
      exact ih (by omega) (by omega) (fun i h3 h4 => hz i (by omega) h4) (fun h3 => hn (by omega))
    · obtain rfl : j = q := by omega
      rw [if_neg (hn (by omega))]
theorem leadF_says {v : Nat → Int} : ∀ {k j : Nat}, j ≤ leadF v k j ∧ leadF v k j ≤ j + k ∧ (∀ i, j ≤ i → i < leadF v k j → v i = 0) ∧ (leadF v k j < j + k → v (leadF v k j) ≠ 0) := by
  intro k
  induction k with
  | zero => intro j; exact ⟨Nat.le_refl _, Nat.le_refl _, fun i h1 h2 => absurd h2 (by show ¬ i < j; omega), fun h => absurd h (by show ¬ j < j + 0; omega)⟩
  | succ k ih =>
    intro j
    by_cases h : v j = 0
    · have e : leadF v (k + 1) j = leadF v k (j + 1) := if_pos h
      rw [e]
      obtain ⟨h1, h2, h3, h4⟩ := ih (j := j + 1)
      refine ⟨by omega, by omega, fun i h5 h6 => ?_, fun h5 => h4 (by omega)⟩
      rcases Nat.lt_or_ge j i with h7 | h7
      · exact h3 i h7 h6
      · obtain rfl : i = j := by omega
        exact h
    · have e : leadF v (k + 1) j = j := if_neg h
      rw [e]
      exact ⟨Nat.le_refl _, by omega, fun i h1 h2 => by omega, fun _ => h⟩
theorem leadC_says (c : Nat) (v : Nat → Int) : leadC c v ≤ c ∧ (∀ i, i < leadC c v → v i = 0) ∧ (leadC c v < c → v (leadC c v) ≠ 0) := by
  obtain ⟨-, h2, h3, h4⟩ := leadF_says (v := v) (k := c) (j := 0)
  exact ⟨by show leadF v c 0 ≤ c; omega, fun i hi => h3 i (Nat.zero_le _) hi, fun h => h4 (by show leadF v c 0 < 0 + c; have : leadF v c 0 < c := h; omega)⟩
/-- What is wrong with row i, whose pivot is in column p, behind a row whose pivot is in column last. -/
def rowBad (c : Nat) (xs : List Int) (i : Nat) (last : Int) : Prop := leadC c (mxC c xs i) < c ∧ (last = c ∨ (leadC c (mxC c xs i) : Int) ≤ last ∨ mxC c xs i (leadC c (mxC c xs i)) < 0 ∨ gcdN c (mxC c xs i) ≠ 1)
def colBad (r c : Nat) (xs : List Int) (i : Nat) : Prop := leadC c (mxC c xs i) < c ∧ ∃ k, k < r ∧ k ≠ i ∧ mxC c xs k (leadC c (mxC c xs i)) ≠ 0
/-- k rows from row i on are those of an echelon form. -/
def EchB (r c : Nat) (xs : List Int) : Nat → Nat → Int → Prop
  | 0, _, _ => True
  | k + 1, i, last => ¬ rowBad c xs i last ∧ ¬ colBad r c xs i ∧ EchB r c xs k (i + 1) (leadC c (mxC c xs i))
theorem Ech.lead_at {r c t : Nat} {xs : List Int} {p : Nat → Nat} (h : Ech r c (mxC c xs) p t) {i : Nat} (hi : i < t) : leadC c (mxC c xs i) = p i :=
  leadF_eq (Nat.zero_le _) (by have := h.col i hi; omega) (fun j _ hj => h.left i j hi hj) (fun _ => by have := h.pos i hi; omega)
theorem Ech.lead_no {r c t : Nat} {xs : List Int} {p : Nat → Nat} (h : Ech r c (mxC c xs) p t) {i : Nat} (hi : t ≤ i) (hir : i < r) : leadC c (mxC c xs i) = c :=
  leadF_eq (Nat.zero_le _) (by omega) (fun j _ hj => h.rest i j hi hir hj) (fun h => by omega)
theorem Ech.echB {r c t : Nat} {xs : List Int} {p : Nat → Nat} (h : Ech r c (mxC c xs) p t) (hn : ∀ i, i < r → Norm c (mxC c xs i)) : ∀ (k i : Nat) (last : Int), i + k = r → (i < t → last < p i ∧ last ≠ c) → EchB r c xs k i last := by
  intro k
  induction k with
  | zero => intro i last _ _; trivial
  | succ k ih =>
    intro i last hik hl
    have hir : i < r := by omega
    rcases Nat.lt_or_ge i t with hit | hit
    · obtain ⟨h1, h2⟩ := hl hit
      have e := h.lead_at hit
      have hc := h.col i hit
      have hp := h.pos i hit
      refine ⟨?_, ?_, ?_⟩
      · rintro ⟨-, hb⟩
        rw [e] at hb
        rcases hb with h3 | h3 | h3 | h3
        · exact h2 h3
        · omega
        · omega
        · exact h3 ((hn i hir).1.resolve_left fun h4 => by have := gcdN_none h4 _ hc; omega)
      · rintro ⟨-, k', h3, h4, h5⟩
        rw [e] at h5
        exact h5 (h.only i k' hit h3 h4)
      · rw [e]
        refine ih (i + 1) _ (by omega) fun h3 => ?_
        have := h.inc i (i + 1) (by omega) h3
        omega
    · have e := h.lead_no hit hir
      refine ⟨fun hb => ?_, fun hb => ?_, ih (i + 1) _ (by omega) fun h3 => by omega⟩
      · have := hb.1; omega
      · have := hb.1; omega
/-- What is told to be an echelon form is one. -/
theorem EchB.ech {r c : Nat} {xs : List Int} : ∀ (k i : Nat) (last : Int), i + k = r → EchB r c xs k i last →
    (last = c → ∀ q j, i ≤ q → q < r → j < c → mxC c xs q j = 0) ∧ (∀ q, i ≤ q → q < r → leadC c (mxC c xs q) < c → last ≠ c ∧ last < leadC c (mxC c xs q)) ∧ (∀ q s, i ≤ q → q < s → s < r → leadC c (mxC c xs s) < c → leadC c (mxC c xs q) < leadC c (mxC c xs s)) ∧ (∀ q, i ≤ q → q < r → Norm c (mxC c xs q)) ∧ ∀ q s, i ≤ q → q < r → leadC c (mxC c xs q) < c → s < r → s ≠ q → mxC c xs s (leadC c (mxC c xs q)) = 0 := by
  intro k
  induction k with
  | zero => intro i last hik _; exact ⟨fun _ q j h1 h2 => by omega, fun q h1 h2 => by omega, fun q s h1 h2 h3 => by omega, fun q h1 h2 => by omega, fun q s h1 h2 => by omega⟩
  | succ k ih =>
    intro i last hik ⟨hrow, hcol, hrest⟩
    obtain ⟨g1, g2, g3, g4, g5⟩ := ih (i + 1) _ (by omega) hrest
    obtain ⟨l1, l2, l3⟩ := leadC_says c (mxC c xs i)
    have own : leadC c (mxC c xs i) < c → last ≠ c ∧ last < leadC c (mxC c xs i) ∧ 0 < mxC c xs i (leadC c (mxC c xs i)) ∧ gcdN c (mxC c xs i) = 1 := fun h => by
      have h0 := l3 h
      refine ⟨fun e => hrow ⟨h, .inl e⟩, ?_, ?_, ?_⟩
      · exact Int.not_le.mp fun e => hrow ⟨h, .inr (.inl e)⟩
      · have : ¬ mxC c xs i (leadC c (mxC c xs i)) < 0 := fun e => hrow ⟨h, .inr (.inr (.inl e))⟩
        omega
      · exact Classical.byContradiction fun e => hrow ⟨h, .inr (.inr (.inr e))⟩
    have full : leadC c (mxC c xs i) = c → ∀ q, i + 1 ≤ q → q < r → ¬ leadC c (mxC c xs q) < c := fun e q h1 h2 h3 => (g2 q h1 h2 h3).1 (by rw [e])
    refine ⟨fun e q j h1 h2 h3 => ?_, fun q h1 h2 h3 => ?_, fun q s h1 h2 h3 h4 => ?_, fun q h1 h2 => ?_, fun q s h1 h2 h3 h4 h5 => ?_⟩
    · have hi : leadC c (mxC c xs i) = c := by
        rcases Nat.lt_or_ge (leadC c (mxC c xs i)) c with h4 | h4
        · exact absurd e (own h4).1
        · omega
      rcases Nat.lt_or_ge i q with h4 | h4
      · exact g1 (by rw [hi]) q j h4 h2 h3
      · obtain rfl : q = i := by omega
        exact l2 j (by omega)
    · rcases Nat.lt_or_ge i q with h4 | h4
      · have h5 := g2 q h4 h2 h3
        have h6 : leadC c (mxC c xs i) < c := by
          rcases Nat.lt_or_ge (leadC c (mxC c xs i)) c with h7 | h7
          · exact h7
          · exact absurd h3 (full (by omega) q h4 h2)
        have h7 := own h6
        exact ⟨h7.1, by omega⟩
      · obtain rfl : q = i := by omega
        exact ⟨(own h3).1, (own h3).2.1⟩
    · rcases Nat.lt_or_ge i q with h5 | h5
      · exact g3 q s h5 h2 h3 h4
      · obtain rfl : q = i := by omega
        have := (g2 s h2 h3 h4).2
        omega
    · rcases Nat.lt_or_ge i q with h5 | h5
      · exact g4 q h5 h2
      · obtain rfl : q = i := by omega
        rcases Nat.lt_or_ge (leadC c (mxC c xs q)) c with h6 | h6
        · obtain ⟨-, -, h7, h8⟩ := own h6
          refine ⟨.inr h8, .inr ?_⟩
          rw [sgnN_first h6 l2 (by omega), if_neg (by omega)]
        · have hz : ∀ j, j < c → mxC c xs q j = 0 := fun j hj => l2 j (by omega)
          exact ⟨.inl (gcdN_all hz), .inl (sgnN_all hz)⟩
    · rcases Nat.lt_or_ge i q with h6 | h6
      · exact g5 q s h6 h2 h3 h4 h5
      · obtain rfl : q = i := by omega
        exact Classical.byContradiction fun h7 => hcol ⟨h3, s, h4, h5, h7⟩
/-- How many of the first rows are not zeros. -/
def topN (c : Nat) (xs : List Int) : Nat → Nat → Nat
  | 0, i => i
  | k + 1, i => if leadC c (mxC c xs i) < c then topN c xs k (i + 1) else i
theorem topN_says {c : Nat} {xs : List Int} : ∀ {k i : Nat}, i ≤ topN c xs k i ∧ topN c xs k i ≤ i + k ∧ (∀ q, i ≤ q → q < topN c xs k i → leadC c (mxC c xs q) < c) ∧ (topN c xs k i < i + k → ¬ leadC c (mxC c xs (topN c xs k i)) < c) := by
  intro k
  induction k with
  | zero => intro i; exact ⟨Nat.le_refl _, Nat.le_refl _, fun q h1 h2 => absurd h2 (by show ¬ q < i; omega), fun h => absurd h (by show ¬ i < i + 0; omega)⟩
  | succ k ih =>
    intro i
    by_cases h : leadC c (mxC c xs i) < c
    · have e : topN c xs (k + 1) i = topN c xs k (i + 1) := if_pos h
      rw [e]
      obtain ⟨h1, h2, h3, h4⟩ := ih (i := i + 1)
      refine ⟨by omega, by omega, fun q h5 h6 => ?_, fun h5 => h4 (by omega)⟩
      rcases Nat.lt_or_ge i q with h7 | h7
      · exact h3 q h7 h6
      · obtain rfl : q = i := by omega
        exact h
    · have e : topN c xs (k + 1) i = i := if_neg h
      rw [e]
      exact ⟨Nat.le_refl _, by omega, fun q h1 h2 => by omega, fun _ => h⟩
theorem EchB.all {r c : Nat} {xs : List Int} (h : EchB r c xs r 0 (-1)) : Ech r c (mxC c xs) (fun i => leadC c (mxC c xs i)) (topN c xs r 0) ∧ ∀ i, i < r → Norm c (mxC c xs i) := by
  obtain ⟨-, -, g3, g4, g5⟩ := EchB.ech r 0 (-1) (by omega) h
  obtain ⟨-, t2, t3, t4⟩ := topN_says (c := c) (xs := xs) (k := r) (i := 0)
  have lead0 : ∀ i j, j < leadC c (mxC c xs i) → mxC c xs i j = 0 := fun i j hj => (leadC_says c (mxC c xs i)).2.1 j hj
  refine ⟨⟨by omega, fun k hk => t3 k (Nat.zero_le _) hk, fun k l hkl hl => g3 k l (Nat.zero_le _) hkl (by omega) (t3 l (Nat.zero_le _) hl), fun k hk => ?_, fun k i hk hi hne => g5 k i (Nat.zero_le _) (by omega) (t3 k (Nat.zero_le _) hk) hi hne, fun k j hk hj => lead0 k j hj, fun i j hi hir hj => ?_, fun k hk => ?_⟩, fun i hi => g4 i (Nat.zero_le _) hi⟩
  · have h1 := t3 k (Nat.zero_le _) hk
    exact (g4 k (Nat.zero_le _) (by omega)).pos h1 (fun j hj => lead0 k j hj) ((leadC_says c (mxC c xs k)).2.2 h1)
  · have ht := t4 (by omega)
    rcases Nat.lt_or_ge (topN c xs r 0) i with h1 | h1
    · refine lead0 i j ?_
      rcases Nat.lt_or_ge (leadC c (mxC c xs i)) c with h2 | h2
      · have := g3 _ i (Nat.zero_le _) h1 hir h2
        omega
      · omega
    · obtain rfl : i = topN c xs r 0 := by omega
      exact lead0 _ j (by omega)
  · have h1 := t3 k (Nat.zero_le _) hk
    exact (g4 k (Nat.zero_le _) (by omega)).prim h1 ((leadC_says c (mxC c xs k)).2.2 h1)
/-- Just the echelon forms stay as they are. -/
theorem EchB_iff {r c : Nat} {xs : List Int} (hx : xs.length = r * c) (hn : nums xs = true) : EchB r c xs r 0 (-1) ↔ ∃ pv, echM r c xs = some (xs, pv) := by
  constructor
  · intro h
    obtain ⟨he, hm⟩ := EchB.all h
    refine ⟨(List.range (topN c xs r 0)).map fun i => leadC c (mxC c xs i), ?_⟩
    unfold echM
    rw [prTo_fix hx hm]
    exact echC_fix he c 0 0 (by omega) (Nat.zero_le _) (fun i hi => by omega) (fun _ => Nat.zero_le _)
  · rintro ⟨pv, h⟩
    obtain ⟨he, -, -, -, -, hm⟩ := echM_says hx hn h
    exact he.echB hm r 0 (-1) (by omega) fun _ => ⟨by omega, by omega⟩
end Go.Proofs.Ytbdofgkcedpamaa
end

section
/-
  Plain mathematics of chapter 7: what a row is divided by in the program. Nothing of a program is used.
-/
namespace Go.Proofs.Ytbdofgkcedpamaa

/-- What a row is divided by. -/
def sgD (c : Nat) (v : Nat → Int) : Int := if gcdN c v = 0 then 1 else sgnN c v * gcdN c v
theorem sgD_div {c : Nat} {v : Nat → Int} (j : Nat) : (v j).tdiv (sgD c v) = prV c v j := by
  unfold sgD prV
  by_cases h : gcdN c v = 0
  · rw [if_pos h, if_pos h, Int.tdiv_one]
  · rw [if_neg h, if_neg h]
    rcases sgnN_or c v with hs | hs | hs
    · exact absurd hs (sgnN_ne h)
    · rw [hs, Int.one_mul, Int.one_mul]
    · rw [hs, Int.neg_mul, Int.neg_mul, Int.one_mul, Int.one_mul, Int.tdiv_neg, Int.neg_tdiv]
theorem sgD_ne (c : Nat) (v : Nat → Int) : sgD c v ≠ 0 := by
  unfold sgD
  by_cases h : gcdN c v = 0
  · rw [if_pos h]; decide
  · rw [if_neg h]
    exact Int.mul_ne_zero (sgnN_ne h) h
theorem sgD_num {c : Nat} {v : Nat → Int} (h : ∀ j, j < c → NumP (v j)) : NumP (sgD c v) := by
  have hg := gcdN_num h
  unfold sgD
  split
  · exact ⟨by decide, by decide⟩
  · unfold NumP at hg ⊢
    rcases sgnN_or c v with hs | hs | hs <;> rw [hs] <;> omega
theorem lead_zero {c : Nat} {v : Nat → Int} : leadC c v = c ↔ gcdN c v = 0 := by
  obtain ⟨h1, h2, h3⟩ := leadC_says c v
  constructor
  · intro h
    exact gcdN_all fun j hj => h2 j (by omega)
  · intro h
    rcases Nat.lt_or_ge (leadC c v) c with h4 | h4
    · exact absurd (gcdN_none h _ h4) (h3 h4)
    · omega
theorem sgD_end {c : Nat} {v : Nat → Int} (h : leadC c v = c) : sgD c v = 1 := by
  unfold sgD
  rw [if_pos (lead_zero.mp h)]
theorem sgD_lead {c : Nat} {v : Nat → Int} (h : leadC c v < c) : sgD c v = if v (leadC c v) < 0 then -gcdN c v else gcdN c v := by
  obtain ⟨h1, h2, h3⟩ := leadC_says c v
  unfold sgD
  rw [if_neg (fun e => by have := lead_zero.mpr e; omega), sgnN_first h h2 (h3 h)]
  split
  · rw [Int.neg_mul, Int.one_mul]
  · rw [Int.one_mul]
/-- The divisor is 1 for a row as an echelon form has it. -/
theorem sgD_one {c : Nat} {v : Nat → Int} : sgD c v = 1 ↔ ¬ (leadC c v < c ∧ (v (leadC c v) < 0 ∨ gcdN c v ≠ 1)) := by
  have g0 := gcdN_nonneg c v
  obtain ⟨h1, h2, h3⟩ := leadC_says c v
  rcases Nat.lt_or_ge (leadC c v) c with h | h
  · rw [sgD_lead h]
    by_cases hn : v (leadC c v) < 0
    · rw [if_pos hn]
      constructor
      · intro e; omega
      · intro e; exact absurd ⟨h, .inl hn⟩ e
    · rw [if_neg hn]
      constructor
      · rintro e ⟨-, h4 | h4⟩
        · exact hn h4
        · exact h4 e
      · intro e
        exact Classical.byContradiction fun h4 => e ⟨h, .inr h4⟩
  · rw [sgD_end (by omega)]
    exact ⟨fun _ h4 => by omega, fun _ => rfl⟩
/-- A row that is primitive has no other divisor. -/
theorem prL_norm {r c i : Nat} {xs : List Int} (hx : xs.length = r * c) (h : i < r → Norm c (mxC c xs i)) : prL r c i xs = xs := by
  rw [prL_row]
  exact rowL_self hx fun hi q hq => prV_id (h hi) hq
/-- A row with 0 in the pivot's column stays as it is. -/
theorem rdV_skip {u v : Nat → Int} {j : Nat} (hu : u j = 0) (hv : 0 < v j) (k : Nat) : rdV j u v k = u k := by
  unfold rdV
  rw [hu, Int.gcd_zero_left, Int.natAbs_of_nonneg (by omega), Int.tdiv_self (by omega), Int.zero_tdiv]
  omega
theorem rdL_skip {r c t j i : Nat} {xs : List Int} (hx : xs.length = r * c) (hu : mxC c xs i j = 0) (hv : 0 < mxC c xs t j) (hn : i < r → Norm c (mxC c xs i)) : rdL r c t j i xs = xs := by
  rw [rdL_row]
  refine rowL_self hx fun hi q hq => ?_
  have e : prV c (rdV j (mxC c xs i) (mxC c xs t)) q = prV c (mxC c xs i) q := prV_congr (fun k _ => rdV_skip hu hv k) q hq
  rw [e, prV_id (hn hi) hq]
theorem rowN_skip {c t j i r : Nat} {xs : List Int} (hx : xs.length = r * c) (nx : nums xs = true) (hi : i < r) (hu : mxC c xs i j = 0) (hv : 0 < mxC c xs t j) : rowN c (rdV j (mxC c xs i) (mxC c xs t)) = true :=
  rowN_iff.mpr fun q hq => by rw [rdV_skip hu hv]; exact mx_nums hx nx hi hq
/-- One row of the elimination as the program does it: rows with 0 are not left out. -/
theorem elimR_go {r c t j k i : Nat} {xs : List Int} (hx : xs.length = r * c) (nx : nums xs = true) (hi : i < r) (hit : i ≠ t) (hv : 0 < mxC c xs t j) (hn : Norm c (mxC c xs i)) :
    (rowN c (rdV j (mxC c xs i) (mxC c xs t)) = true → elimR r c t j (k + 1) i xs = elimR r c t j k (i + 1) (rdL r c t j i xs)) ∧ (rowN c (rdV j (mxC c xs i) (mxC c xs t)) ≠ true → elimR r c t j (k + 1) i xs = none) := by
  by_cases h0 : mxC c xs i j = 0
  · refine ⟨fun _ => ?_, fun h => absurd (rowN_skip hx nx hi h0 hv) h⟩
    rw [elimR_skip (.inr h0), rdL_skip hx h0 hv fun _ => hn]
  · have h1 : ¬ (i = t ∨ mxC c xs i j = 0) := fun e => e.elim hit h0
    exact ⟨fun h => elimR_on h1 h, fun h => elimR_bad h1 h⟩
/-- Where all rows have their pivots, nothing is left to do. -/
theorem echC_full {r c : Nat} {xs : List Int} {pv : List Nat} (h : ¬ pv.length < r) (k j : Nat) : echC r c k j xs pv = some (xs, pv) := by
  cases k with
  | zero => rfl
  | succ k => exact if_neg h
end Go.Proofs.Ytbdofgkcedpamaa
end

section
/-
  Chapter 1, in the program: greatestDivisor.
-/
namespace Go.Proofs.Ytbdofgkcedpamaa
open Go.RowKit

set_option maxHeartbeats 400000 in
/-- The program's Euclid, of any two ints but the two smallest. -/
theorem iGD (a b : Int) (w : World) (ha : -9000000000000000000 ≤ a ∧ a ≤ 9000000000000000000) (hb : -9000000000000000000 ≤ b ∧ b ≤ 9000000000000000000) :
    Calls Try.prog 91 #[.int .i64 a, .int .i64 b] w fun e w' => e = .returned (.int .i64 (Int.gcd a b : Int)) ∧ ∃ n, w' = w.drewN n := by
  obtain ⟨ha1, ha2⟩ := ha
  obtain ⟨hb1, hb2⟩ := hb
  go_enter Try.func91, Try.ntmps91
  go_wp2_with fail
  go_loopw [0, 1] (fun x y wr => ∃ p q : Int, x = .int .i64 p ∧ y = .int .i64 q ∧ -9000000000000000000 ≤ p ∧ p ≤ 9000000000000000000 ∧ -9000000000000000000 ≤ q ∧ q ≤ 9000000000000000000 ∧ Int.gcd p q = Int.gcd a b ∧ ∃ n, wr = w.drewN n) (fun _ y _ => (intOf y).natAbs)
  case atStart => exact ⟨a, b, rfl, rfl, ha1, ha2, hb1, hb2, rfl, 0, rfl⟩
  case round =>
    obtain ⟨p, q, rfl, rfl, p1, p2, q1, q2, hg, n, rfl⟩ := hrel
    have HG := Lib.hid hg
    clear hg
    by_cases hq : q = 0
    · subst hq
      go_wp2
      all_goals
        go_ret
        exact ⟨by rw [← HG.out, Int.gcd_zero_right]; exact ret_int (by omega), n, rfl⟩
    · have t1 := tmod_small p q hq
      have t2 := gcd_round p q
      have b1 : -9000000000000000000 ≤ p.tmod q := by omega
      have b2 : p.tmod q ≤ 9000000000000000000 := by omega
      have T1 := Lib.hid t1
      have T2 := Lib.hid t2
      clear t1 t2
      have hq' : (q == 0) = false := by simpa using hq
      go_wp2
      go_quiet (fail)
      go_wp2
      go_roundw
      case rel => exact ⟨q, p.tmod q, rfl, rfl, q1, q2, b1, b2, T2.out.trans HG.out, _, by rw [World.drewN_drewN]⟩
      case measure => simpa [intOf] using T1.out
end Go.Proofs.Ytbdofgkcedpamaa
end

section
/-
  Chapter 7, in the program: a row's first cell with something, and what the row is divided by.
-/
namespace Go.Proofs.Ytbdofgkcedpamaa
set_option maxRecDepth 100000
open Go.RowKit

theorem iLead (c cap : Nat) (q : Option Addr) (v : Nat → Int) (w : World) (h : Rd w q (rwL c v)) (hc : c ≤ 24) :
    Calls Try.prog 58 #[.slice q c cap] w (fun e w' => e = .returned (.int .i64 (leadC c v : Int)) ∧ w' = w) := by
  have RX : Hid (∀ j, j < c → ∃ b o : Nat, q = some ⟨b, o, none⟩ ∧ w.cell? ⟨b, o + j, none⟩ = some (.int .i64 (v j))) := fun j hj => by
    have := h j (by rw [rwL_length]; exact hj)
    rw [rwL_at hj] at this
    exact this
  clear h
  go_enter Try.func58, Try.ntmps58
  go_wp2_with fail
  go_loopw [3, 4, 7] (fun _ _ v7 wr => ∃ j : Nat, v7 = .int .i64 j ∧ j ≤ c ∧ (∀ i, i < j → v i = 0) ∧ wr = w) (fun _ _ v7 _ => c - (intOf v7).toNat)
  case atStart => exact ⟨0, rfl, by omega, fun i hi => by omega, rfl⟩
  case round =>
    obtain ⟨j, rfl, hj, hz, rfl⟩ := hrel
    have Z := Lib.hid hz
    clear hz
    by_cases hlt : j < c
    · obtain ⟨b, o, rfl, hcell⟩ := RX.out j hlt
      obtain ⟨x, hx⟩ : ∃ x, v j = x := ⟨_, rfl⟩
      have X := Lib.hid hx
      rw [hx] at hcell
      clear hx
      by_cases h0 : x = 0
      · have n1 : (x != 0) = false := by simp [h0]
        have n2 : (x == 0) = true := by simp [h0]
        have Z1 : Hid (∀ i, i < j + 1 → v i = 0) := fun i hi => by
          rcases Nat.lt_or_ge i j with h1 | h1
          · exact Z.out i h1
          · obtain rfl : i = j := by omega
            rw [X.out, h0]
        clear h0
        go_wp2_with fail
        go_roundw
        case rel => exact ⟨j + 1, by go_num, by omega, Z1.out, trivial⟩
        case measure => simp [intOf]; omega
      · have n1 : (x != 0) = true := by simpa using h0
        have n2 : (x == 0) = false := by simpa using h0
        have L : Hid (leadC c v = j) := leadF_eq (Nat.zero_le _) (by omega) (fun i _ hi => Z.out i hi) (fun _ => by rw [X.out]; exact h0)
        clear h0
        go_wp2_with fail
        go_ret
        exact ⟨by rw [L.out]; rfl, rfl⟩
    · obtain rfl : c = j := by omega
      have L : Hid (leadC c v = c) := leadF_eq (Nat.zero_le _) (by omega) (fun i _ hi => Z.out i hi) (fun h => by omega)
      go_wp2_with fail
      go_ret
      exact ⟨by rw [L.out]; rfl, rfl⟩
theorem iSgD (c cap : Nat) (q : Option Addr) (v : Nat → Int) (w : World) (h : Rd w q (rwL c v)) (hc : c ≤ 24) (hv : ∀ j, j < c → NumP (v j)) :
    Calls Try.prog 53 #[.slice q c cap] w (fun e w' => e = .returned (.int .i64 (sgD c v)) ∧ ∃ n, w' = w.drewN n) := by
  have LD : Hid (Calls Try.prog 58 #[.slice q c cap] w (fun e w' => e = .returned (.int .i64 (leadC c v : Int)) ∧ w' = w)) := iLead c cap q v w h hc
  have RX : Hid (∀ j n, j < c → ∃ b o : Nat, q = some ⟨b, o, none⟩ ∧ (w.drewN n).cell? ⟨b, o + j, none⟩ = some (.int .i64 (v j))) := fun j n hj => by
    have := h.drewN n j (by rw [rwL_length]; exact hj)
    rw [rwL_at hj] at this
    exact this
  have VN := Lib.hid hv
  obtain ⟨l1, -, -⟩ := leadC_says c v
  have SE : Hid (leadC c v = c → sgD c v = 1) := sgD_end
  have SL : Hid (leadC c v < c → sgD c v = if v (leadC c v) < 0 then -gcdN c v else gcdN c v) := sgD_lead
  have GB := gcdN_num (n := c) (f := v) hv
  unfold NumP at GB
  generalize leadC c v = l at LD l1 SE SL
  clear h hv
  go_enter Try.func53, Try.ntmps53
  go_wp2_with fail
  refine LD.out.mono ?_
  rintro e w1 ⟨rfl, rfl⟩
  by_cases hl : l = c
  · have n1 : ((l : Int) == (c : Int)) = true := by simp [hl]
    have S1 := Lib.hid (SE.out hl)
    clear hl
    go_wp2_with fail
    go_ret
    exact ⟨by rw [S1.out]; rfl, 0, rfl⟩
  · have n1 : ((l : Int) == (c : Int)) = false := by simp; omega
    have hlc : l < c := by omega
    have S1 := Lib.hid (SL.out hlc)
    clear hl SE SL
    go_wp2_with fail
    go_loopw [4, 6, 15] (fun v4 _ v15 wr => ∃ j n : Nat, v15 = .int .i64 j ∧ j ≤ c ∧ v4 = .int .i64 (gcdN j v) ∧ wr = w1.drewN n) (fun _ _ v15 _ => c - (intOf v15).toNat)
    case atStart => exact ⟨0, 0, rfl, by omega, rfl, rfl⟩
    case round =>
      obtain ⟨j, n, rfl, hj, rfl, rfl⟩ := hrel
      by_cases hlt : j < c
      · obtain ⟨b, o, rfl, hcell⟩ := RX.out j n hlt
        have hb := VN.out j hlt
        have hg := gcdN_num (n := j) (f := v) (fun k hk => VN.out k (by omega))
        have GS : Hid (gcdN (j + 1) v = ((gcdN j v).gcd (v j) : Int)) := rfl
        generalize gcdN j v = gg at hg GS
        generalize v j = x at hcell hb GS
        unfold NumP at hb hg
        go_wp2_with fail
        refine (iGD gg x _ (by omega) (by omega)).mono ?_
        rintro e w2 ⟨rfl, k, rfl⟩
        go_wp2_with fail
        go_roundw
        case rel => exact ⟨j + 1, n + k, by go_num, by omega, by first | (rw [GS.out]; done) | (rw [GS.out]; simp), by first | rfl | rw [World.drewN_drewN]⟩
        case measure => simp [intOf]; omega
      · obtain rfl : c = j := by omega
        clear hlt
        obtain ⟨b, o, rfl, hcell⟩ := RX.out l n hlc
        obtain ⟨x, hx⟩ : ∃ x, v l = x := ⟨_, rfl⟩
        rw [hx] at hcell S1
        clear hx
        obtain ⟨gg, hgg⟩ : ∃ gg, gcdN c v = gg := ⟨_, rfl⟩
        rw [hgg] at S1 GB
        rw [hgg]
        clear hgg
        have v1 : IntKind.i64.wrap (-gg) = -gg := IntWalk.i64_in _ (by omega)
        have l0 : (0 : Int) ≤ (l : Int) := by omega
        have l2 : (l : Int) < (c : Int) := by omega
        by_cases hneg : x < 0
        · rw [if_pos hneg] at S1
          have n2 : decide (x < 0) = true := decide_eq_true hneg
          go_wp2_with fail
          go_ret
          exact ⟨by rw [S1.out]; rfl, n, rfl⟩
        · rw [if_neg hneg] at S1
          have n2 : decide (x < 0) = false := decide_eq_false hneg
          go_wp2_with fail
          go_ret
          exact ⟨by rw [S1.out]; rfl, n, rfl⟩
end Go.Proofs.Ytbdofgkcedpamaa
end

section
/-
  Chapter 7, in the program: a row made primitive (the closure of EchelonOf).
-/
namespace Go.Proofs.Ytbdofgkcedpamaa
set_option maxRecDepth 100000
open Go.RowKit

/-- The cells of a matrix: nil, or all of what shows in block g. -/
def Cel (w : World) (q : Option Addr) (N cap g : Nat) (xs : List Int) : Prop := (q = none ∧ cap = 0 ∧ N = 0 ∧ xs = []) ∨ (q = some ⟨g, 0, none⟩ ∧ N ≤ cap ∧ xs.length = N ∧ Ints w g xs)
theorem Cel.spot {w : World} {q : Option Addr} {N cap g : Nat} {xs : List Int} (h : Cel w q N cap g xs) : Spot q := by
  rcases h with ⟨h, -⟩ | ⟨h, -⟩
  · exact .inl h
  · exact .inr ⟨g, 0, h⟩
theorem Cel.le {w : World} {q : Option Addr} {N cap g : Nat} {xs : List Int} (h : Cel w q N cap g xs) : N ≤ cap := by
  rcases h with ⟨-, h1, h2, -⟩ | ⟨-, h, -⟩ <;> omega
theorem Cel.nil {w : World} {q : Option Addr} {N cap g : Nat} {xs : List Int} (h : Cel w q N cap g xs) (hq : q = none) : cap = 0 := by
  rcases h with ⟨-, h1, -⟩ | ⟨h, -⟩
  · exact h1
  · rw [hq] at h; cases h
theorem Cel.len {w : World} {q : Option Addr} {N cap g : Nat} {xs : List Int} (h : Cel w q N cap g xs) : xs.length = N := by
  rcases h with ⟨-, -, h1, h2⟩ | ⟨-, -, h, -⟩
  · rw [h1, h2]; rfl
  · exact h
theorem Cel.ints {w : World} {q : Option Addr} {N cap g : Nat} {xs : List Int} (h : Cel w q N cap g xs) (h0 : 0 < N) : q = some ⟨g, 0, none⟩ ∧ Ints w g xs := by
  rcases h with ⟨-, -, h1, -⟩ | ⟨h1, -, -, h2⟩
  · omega
  · exact ⟨h1, h2⟩
theorem Cel.rd {w : World} {q : Option Addr} {N cap g : Nat} {xs : List Int} (h : Cel w q N cap g xs) : Rd w q xs := by
  rcases h with ⟨-, -, -, rfl⟩ | ⟨rfl, -, -, h⟩
  · exact Rd.nil _ _
  · exact h.rd
theorem Cel.move {w w' : World} {q : Option Addr} {N cap g : Nat} {xs : List Int} (h : Cel w q N cap g xs) (e : g < w.heap.size → w'.heap[g]? = w.heap[g]?) : Cel w' q N cap g xs := by
  rcases h with h | ⟨h1, h2, h3, h4⟩
  · exact .inl h
  · exact .inr ⟨h1, h2, h3, h4.move (e h4.lt)⟩
theorem Cel.keep {w w' : World} {q : Option Addr} {N cap g : Nat} {xs : List Int} (h : Cel w q N cap g xs) (hb : Below w.heap.size w w') : Cel w' q N cap g xs := h.move fun hl => hb.block g hl
theorem Cel.drewN {w : World} {q : Option Addr} {N cap g : Nat} {xs : List Int} (h : Cel w q N cap g xs) (n : Nat) : Cel (w.drewN n) q N cap g xs := h
theorem Cel.put {w w' : World} {q : Option Addr} {N cap g : Nat} {xs ys : List Int} (h : Cel w q N cap g xs) (h0 : 0 < N) (hl : ys.length = N) (hi : Ints w' g ys) : Cel w' q N cap g ys :=
  .inr ⟨(h.ints h0).1, h.le, hl, hi⟩
theorem Cel.own {w : World} {q : Option Addr} {N cap g B : Nat} {xs : List Int} (h : Cel w q N cap g xs) (hB : B ≤ g) (hN : N ≤ 16777216) : Own B w (.slice q N cap) xs := by
  rcases h with ⟨rfl, rfl, rfl, rfl⟩ | ⟨rfl, h1, h2, h3⟩
  · exact .inl ⟨rfl, rfl⟩
  · exact .inr ⟨g, cap, by rw [h2], hB, h3, by omega, by omega⟩
set_option maxHeartbeats 2000000 in
theorem iPrim (r c i N ob cap g : Nat) (q : Option Addr) (xs : List Int) (w : World) (hN : N = r * c) (hr : r ≤ 24) (hc : c ≤ 24) (hi : i < r) (nx : nums xs = true) (K : Blk3 w ob 26 (.int .i64 r) (.int .i64 c) (.slice q N cap)) (hg : Cel w q N cap g xs) :
    Calls Try.prog 51 #[.int .i64 i, .pointer (some ⟨ob, 0, none⟩)] w (fun e w' => Void e ∧ Cel w' q N cap g (prL r c i xs) ∧ w.grownBy w' (some g)) := by
  have hle : r * c ≤ 24 * 24 := Nat.mul_le_mul hr hc
  rw [← hN] at hle
  have hx := hg.len
  obtain ⟨D, hD⟩ : ∃ D, i * c = D := ⟨_, rfl⟩
  have hDN : D + c ≤ N := by
    rw [hN, ← hD, ← Nat.succ_mul]; exact Nat.mul_le_mul_right _ hi
  have RW : Hid (∀ w', Calls Try.prog 52 #[.agg #[.int .i64 r, .int .i64 c, .slice q N cap], .int .i64 i] w' (RowAt q D c w')) := fun w' => iRowIn r c i D N cap q w' hg.spot hD hDN hg.le hg.nil (by omega) (by omega)
  obtain ⟨v, hv⟩ : ∃ v, mxC c xs i = v := ⟨_, rfl⟩
  have VN : Hid (∀ j, j < c → NumP (v j)) := fun j hj => by rw [← hv]; exact mx_nums (by rw [hx, hN]) nx hi hj
  have RD : Hid (∀ w' q', Cel w' q N cap g xs → (∀ g o : Nat, q = some ⟨g, o, none⟩ → 0 < c → q' = some ⟨g, o + D, none⟩) → Rd w' q' (rwL c v)) := fun w' q' h hq => by
    rw [← hv]
    exact h.rd.row (by rw [hx, hN]) hi (by rw [hD]; exact hq)
  have PV : Hid (prL r c i xs = rowTo r c i (prV c v) xs c) := by show _ = _; rw [rowTo_all, prL_row, hv]
  have RZ : Hid (rowTo r c i (prV c v) xs 0 = xs) := rowTo_zero (by rw [hx, hN])
  have DV : Hid (∀ j, (v j).tdiv (sgD c v) = prV c v j) := fun j => sgD_div j
  have SG : Hid (∀ w' q' m', Rd w' q' (rwL c v) → Calls Try.prog 53 #[.slice q' c m'] w' (fun e w2 => e = .returned (.int .i64 (sgD c v)) ∧ ∃ n, w2 = w'.drewN n)) := fun w' q' m' h => iSgD c m' q' v w' h hc VN.out
  have d0 := sgD_ne c v
  have dn := sgD_num (c := c) (v := v) VN.out
  have RT : Hid (∀ k, k < c → (rowTo r c i (prV c v) xs k).set (D + k) (prV c v k) = rowTo r c i (prV c v) xs (k + 1)) := fun k hk => by rw [← hD]; exact rowTo_step hi hk
  have RX : Hid (∀ k, k < c → (rowTo r c i (prV c v) xs k).getD (D + k) 0 = v k) := fun k hk => by rw [← hD, rowTo_old hi hk (.inr (Nat.le_refl _)), ← hv]; rfl
  have RL : Hid (∀ k, (rowTo r c i (prV c v) xs k).length = N) := fun k => by rw [rowTo_length, hN]
  have PN : Hid (∀ j, j < c → NumP (prV c v j)) := fun j hj => prV_num VN.out hj
  have CG := Lib.hid hg
  generalize sgD c v = d at DV SG d0 dn
  clear hx nx hg hv hN
  generalize prV c v = u at PV RZ DV RT RX RL PN
  unfold NumP at dn
  obtain ⟨p0, p1, p2, -, -, -⟩ := K.all
  clear K hD
  go_enter Try.func51, Try.ntmps51
  go_wp2_with fail
  refine (RW.out _).mono ?_
  rintro e w1 ⟨q', m', rfl, hcm, hq1, hq2, hb1⟩
  have C1 := Lib.hid (CG.out.keep hb1)
  have G1 := Lib.hid (grown_of_below hb1 (some g))
  have R1 := Lib.hid (RD.out _ _ C1.out hq1)
  have Q1 := Lib.hid hq1
  clear hb1 hq1 hq2 p0 p1 p2
  go_wp2_with fail
  refine (SG.out _ _ _ R1.out).mono ?_
  rintro e w2 ⟨rfl, n, rfl⟩
  have C2 := Lib.hid (C1.out.drewN n)
  have G2 := Lib.hid (grown_drewN_one G1.out n)
  clear C1 G1 R1 SG RD RW
  generalize w1.drewN n = w2 at C2 G2 ⊢
  go_wp2_with fail
  go_loopw [5, 13] (fun _ v13 wr => ∃ j : Nat, v13 = .int .i64 j ∧ j ≤ c ∧ Cel wr q N cap g (rowTo r c i u xs j) ∧ w.grownBy wr (some g)) (fun _ v13 _ => c - (intOf v13).toNat)
  case atStart => exact ⟨0, rfl, by omega, by rw [RZ.out]; exact C2.out, G2.out⟩
  case round =>
    clear C2 G2
    obtain ⟨j, rfl, hj, hcel, hgr⟩ := hrel
    have CL := Lib.hid hcel
    have G := Lib.hid hgr
    clear hcel hgr
    by_cases hlt : j < c
    · obtain ⟨e1, hi1⟩ := CL.out.ints (by omega)
      have e2 := Q1.out g 0 e1 (by omega)
      rw [Nat.zero_add] at e2
      subst e2
      have hcell := hi1.cell (i := D + j) (by rw [RL.out]; omega)
      rw [RX.out j hlt] at hcell
      have hfr := hi1.free (D + j)
      have hb := VN.out j hlt
      have ho := PN.out j hlt
      have RS := Lib.hid (RT.out j hlt)
      have dv := DV.out j
      generalize v j = x at hcell hb dv
      obtain ⟨y, hy⟩ : ∃ y, u j = y := ⟨_, rfl⟩
      rw [hy] at RS ho dv
      unfold NumP at hb ho
      have z2 : IntKind.i64.wrap y = y := IntWalk.i64_in _ (by omega)
      have z3 : (d == 0) = false := by simpa using d0
      have I1 := Lib.hid hi1
      clear hy hi1 e1
      go_wp2_with fail
      go_roundw
      case rel =>
        refine ⟨j + 1, by go_num, by omega, ?_, ?_⟩
        · rw [← RS.out]
          exact CL.out.put (by omega) (by rw [List.length_set, RL.out]) (I1.out.set (D + j) y)
        · exact grown_set_one (a := ⟨g, D + j, none⟩) G.out rfl _
      case measure => simp [intOf]; omega
    · obtain rfl : c = j := by omega
      clear hlt
      go_wp2_with fail
      go_end0
      exact ⟨rfl, by rw [PV.out]; exact CL.out, G.out⟩
end Go.Proofs.Ytbdofgkcedpamaa
end

section
/-
  Chapter 7, in the program: the pivot's row of any matrix.
-/
namespace Go.Proofs.Ytbdofgkcedpamaa
set_option maxRecDepth 100000
open Go.RowKit

/-- What pivotRow answers. -/
def pvR (r c j t : Nat) (xs : List Int) : Int := if fstR c j xs (r - t) t = r then -1 else (fstR c j xs (r - t) t : Int)
set_option maxHeartbeats 1000000 in
theorem iPivR (r c t j N cap g : Nat) (q : Option Addr) (xs : List Int) (w : World) (hN : N = r * c) (hr : r ≤ 24) (hc : c ≤ 24) (ht : t ≤ r) (hj : j < c) (hg : Cel w q N cap g xs) :
    Calls Try.prog 54 #[.agg #[.int .i64 r, .int .i64 c, .slice q N cap], .int .i64 t, .int .i64 j] w (Gives (.int .i64 (pvR r c j t xs)) w) := by
  have hle : r * c ≤ 24 * 24 := Nat.mul_le_mul hr hc
  rw [← hN] at hle
  have hx := hg.len
  have hl : xs.length = r * c := by rw [hx, hN]
  have IX : Hid (∀ i, i < r → ∃ P : Nat, i * c + j = P ∧ P < N ∧ IntKind.i64.wrap ((i : Int) * (c : Int)) = (i : Int) * (c : Int) ∧ IntKind.i64.wrap ((i : Int) * (c : Int) + (j : Int)) = (P : Int)) := fun i hi => by
    have h1 : i * c + j < r * c := idx_lt hi hj
    have c1 : (i : Int) * (c : Int) = ((i * c : Nat) : Int) := (Int.natCast_mul _ _).symm
    refine ⟨i * c + j, rfl, by omega, IntWalk.i64_in _ (by rw [c1]; omega), ?_⟩
    rw [show (i : Int) * (c : Int) + (j : Int) = ((i * c + j : Nat) : Int) by rw [c1]; omega]
    exact IntWalk.i64_in _ (by omega)
  have BW : Hid (Below w.heap.size w (w.alloc (.cells #[.int .i64 r, .int .i64 c, .slice q N cap] 26))) := (Below.refl _ _).alloc (Nat.le_refl _) _
  have K0 : Hid (Blk3 (w.alloc (.cells #[.int .i64 r, .int .i64 c, .slice q N cap] 26)) w.heap.size 26 (.int .i64 r) (.int .i64 c) (.slice q N cap)) := Blk3.at_ _ _ _ _ rfl
  have CX : Hid (∀ i P, i < r → i * c + j = P → ∃ b o : Nat, q = some ⟨b, o, none⟩ ∧ (w.alloc (.cells #[.int .i64 r, .int .i64 c, .slice q N cap] 26)).cell? ⟨b, o + P, none⟩ = some (.int .i64 (mxC c xs i j))) := fun i P hi hP => by
    subst hP
    exact hg.rd.below BW.out _ (by rw [hl]; exact idx_lt hi hj)
  clear hN hx hl hg
  go_enter Try.func54, Try.ntmps54
  go_wp2_with fail
  generalize w.alloc (.cells #[.int .i64 r, .int .i64 c, .slice q N cap] 26) = W at BW K0 CX
  obtain ⟨p0, p1, p2, -, -, -⟩ := K0.out.all
  go_loopw [6, 7] (fun _ v7 wq => ∃ p : Nat, v7 = .int .i64 p ∧ t ≤ p ∧ p ≤ r ∧ (∀ i, t ≤ i → i < p → mxC c xs i j = 0) ∧ wq = W) (fun _ v7 _ => r - (intOf v7).toNat)
  case atStart => exact ⟨t, rfl, Nat.le_refl _, by omega, fun i h1 h2 => by omega, rfl⟩
  case round =>
    obtain ⟨p, rfl, hp1, hp2, hp0, rfl⟩ := hrel
    have P0 := Lib.hid hp0
    clear hp0
    by_cases hpn : p < r
    · obtain ⟨P, hP, hPN, u1, u2⟩ := IX.out p hpn
      have Pa : (0 : Int) ≤ (P : Int) := by omega
      have Pb : (P : Int) < (N : Int) := by omega
      obtain ⟨b, o, rfl, hcell⟩ := CX.out p P hpn hP
      obtain ⟨x, hxx⟩ : ∃ x, mxC c xs p j = x := ⟨_, rfl⟩
      have X := Lib.hid hxx
      rw [hxx] at hcell
      clear hxx hP
      by_cases h0 : x = 0
      · have n1 : (x != 0) = false := by simp [h0]
        have n2 : (x == 0) = true := by simp [h0]
        have P1 : Hid (∀ i, t ≤ i → i < p + 1 → mxC c xs i j = 0) := fun i h1 h2 => by
          rcases Nat.lt_or_ge i p with h3 | h3
          · exact P0.out i h1 h3
          · obtain rfl : i = p := by omega
            rw [X.out, h0]
        clear h0
        go_wp2_with fail
        go_roundw
        case rel => exact ⟨p + 1, by go_num, by omega, by omega, P1.out, trivial⟩
        case measure => simp [intOf]; omega
      · have n1 : (x != 0) = true := by simpa using h0
        have n2 : (x == 0) = false := by simpa using h0
        have PV : Hid (pvR r c j t xs = p) := by
          have e : fstR c j xs (r - t) t = p := fstR_eq hp1 (by omega) P0.out fun _ => by rw [X.out]; exact h0
          show pvR r c j t xs = p
          unfold pvR
          rw [e, if_neg (by omega)]
        clear h0
        go_wp2_with fail
        go_ret
        exact ⟨by rw [PV.out]; rfl, BW.out⟩
    · have hpe : p = r := by omega
      have PV : Hid (pvR r c j t xs = -1) := by
        show pvR r c j t xs = -1
        unfold pvR
        rw [if_pos ((fstR_eq hp1 (by omega) P0.out fun h => by omega).trans hpe)]
      clear hpe
      go_wp2_with fail
      go_ret
      exact ⟨by rw [PV.out]; rfl, BW.out⟩
end Go.Proofs.Ytbdofgkcedpamaa
end

section
/-
  Chapter 7, in the program: two rows of any matrix swapped in place.
-/
namespace Go.Proofs.Ytbdofgkcedpamaa
set_option maxRecDepth 100000
open Go.RowKit

theorem keepC {W : World} {b g : Nat} {p q v : Value} (h : W.cell? ⟨b, 0, none⟩ = some p ∧ W.cell? ⟨b, 1, none⟩ = some q ∧ W.cell? ⟨b, 2, none⟩ = some v) (hne : b ≠ g) (o : Nat) (u : Value) :
    (W.setCell ⟨g, o, none⟩ u).cell? ⟨b, 0, none⟩ = some p ∧ (W.setCell ⟨g, o, none⟩ u).cell? ⟨b, 1, none⟩ = some q ∧ (W.setCell ⟨g, o, none⟩ u).cell? ⟨b, 2, none⟩ = some v := by
  have e : ∀ k, (W.setCell ⟨g, o, none⟩ u).cell? ⟨b, k, none⟩ = W.cell? ⟨b, k, none⟩ := fun k => World.cell?_setCell_other W _ _ _ (fun e => hne (by injection e with e; exact e.symm))
  exact ⟨(e 0).trans h.1, (e 1).trans h.2.1, (e 2).trans h.2.2⟩
/-- The cells before column q of rows p and t swapped. -/
def swTo (p t c : Nat) (xs : List Int) (q : Nat) : List Int := if p = t then xs else opTo 0 p t 0 c xs q
theorem swTo_length (p t c : Nat) (xs : List Int) (q : Nat) : (swTo p t c xs q).length = xs.length := by
  unfold swTo
  split
  · rfl
  · exact opTo_length _ _ _ _ _ _ _
theorem swTo_zero (p t c : Nat) (xs : List Int) : swTo p t c xs 0 = xs := by
  unfold swTo
  split
  · rfl
  · exact opTo_zero _ _ _ _ _ _
theorem swTo_all {p t c : Nat} {xs : List Int} (h : 0 < c) : swTo p t c xs c = swC p t c xs := by
  unfold swTo swC
  split
  · rfl
  · exact opTo_all _ _ _ _ _ _ (.inr h)
theorem set_self (xs : List Int) (i : Nat) : xs.set i (xs.getD i 0) = xs := by
  rcases Nat.lt_or_ge i xs.length with h | h
  · simp [List.getD, h]
  · exact List.set_eq_of_length_le h
theorem swTo_step {r p t c q : Nat} {xs : List Int} (hx : xs.length = r * c) (hp : p < r) (ht : t < r) (hq : q < c) : ((swTo p t c xs q).set (p * c + q) (xs.getD (t * c + q) 0)).set (t * c + q) (xs.getD (p * c + q) 0) = swTo p t c xs (q + 1) := by
  unfold swTo
  by_cases e : p = t
  · rw [if_pos e, if_pos e, e, set_self, set_self]
  · rw [if_neg e, if_neg e]
    exact (op_swap p t 0 c r xs q hx hp ht hq).resolve_right e
theorem swTo_at {r p t c q i : Nat} {xs : List Int} (hx : xs.length = r * c) (hi : i < r) (hq : q < c) : (swTo p t c xs q).getD (i * c + q) 0 = xs.getD (i * c + q) 0 := by
  unfold swTo
  split
  · rfl
  · exact opTo_at _ _ _ _ _ _ _ _ hq (by rw [hx]; exact idx_lt hi hq)
set_option maxHeartbeats 2000000 in
theorem iSwR (r c p t N cap g : Nat) (xs : List Int) (w : World) (hN : N = r * c) (hx : xs.length = N) (hr : r ≤ 24) (hc : c ≤ 24) (hc0 : 0 < c) (hp : p < r) (ht : t < r) (hi : Ints w g xs) :
    Calls Try.prog 55 #[.agg #[.int .i64 r, .int .i64 c, .slice (some ⟨g, 0, none⟩) N cap], .int .i64 p, .int .i64 t] w (fun e w' => Void e ∧ Ints w' g (swC p t c xs) ∧ w.grownBy w' (some g)) := by
  have hle : r * c ≤ 24 * 24 := Nat.mul_le_mul hr hc
  rw [← hN] at hle
  have hl : xs.length = r * c := by rw [hx, hN]
  have SL : Hid (∀ q, (swTo p t c xs q).length = N) := fun q => by rw [swTo_length, hx]
  have SS : Hid (∀ q, q < c → ((swTo p t c xs q).set (p * c + q) (xs.getD (t * c + q) 0)).set (t * c + q) (xs.getD (p * c + q) 0) = swTo p t c xs (q + 1)) := fun q hq => swTo_step hl hp ht hq
  have SA : Hid (∀ i q, i < r → q < c → (swTo p t c xs q).getD (i * c + q) 0 = xs.getD (i * c + q) 0) := fun i q hi hq => swTo_at hl hi hq
  have SZ : Hid (swTo p t c xs 0 = xs) := swTo_zero _ _ _ _
  have SE : Hid (swTo p t c xs c = swC p t c xs) := swTo_all hc0
  have IL : Hid (∀ i q, i < r → q < c → i * c + q < N) := fun i q hi hq => by rw [hN]; exact idx_lt hi hq
  have lg := hi.lt
  have GW : Hid (w.grownBy (w.alloc (.cells #[.int .i64 r, .int .i64 c, .slice (some ⟨g, 0, none⟩) N cap] 26)) (some g)) := World.grownBy_alloc _ _ _
  have K0 : Hid (Blk3 (w.alloc (.cells #[.int .i64 r, .int .i64 c, .slice (some ⟨g, 0, none⟩) N cap] 26)) w.heap.size 26 (.int .i64 r) (.int .i64 c) (.slice (some ⟨g, 0, none⟩) N cap)) := Blk3.at_ _ _ _ _ rfl
  have I := Lib.hid (hi.old (.cells #[.int .i64 r, .int .i64 c, .slice (some ⟨g, 0, none⟩) N cap] 26))
  clear hN hx hi hl
  go_enter Try.func55, Try.ntmps55
  go_wp2_with fail
  generalize w.alloc (.cells #[.int .i64 r, .int .i64 c, .slice (some ⟨g, 0, none⟩) N cap] 26) = W at GW K0 I
  obtain ⟨z0, z1, z2, -, -, -⟩ := K0.out.all
  go_loopw [6, 7, 8, 11] (fun _ _ _ v11 wr => ∃ q : Nat, v11 = .int .i64 q ∧ q ≤ c ∧ Ints wr g (swTo p t c xs q) ∧ W.grownBy wr (some g)) (fun _ _ _ v11 _ => c - (intOf v11).toNat)
  case atStart => exact ⟨0, rfl, by omega, by rw [SZ.out]; exact I.out, World.grownBy.refl _ _⟩
  case round =>
    clear z0 z1 z2
    obtain ⟨q, rfl, hq, hi, hgr⟩ := hrel
    have I := Lib.hid hi
    have G := Lib.hid hgr
    clear hi hgr
    have R0 := Lib.hid (K0.out.keepOne G.out (by omega))
    obtain ⟨r0, r1, r2, -, -, -⟩ := R0.out.all
    by_cases hlt : q < c
    · have ja := IL.out p q hp hlt
      have jb := IL.out t q ht hlt
      have ca : (p : Int) * (c : Int) = ((p * c : Nat) : Int) := (Int.natCast_mul _ _).symm
      have cb : (t : Int) * (c : Int) = ((t * c : Nat) : Int) := (Int.natCast_mul _ _).symm
      obtain ⟨A, hA⟩ : ∃ A, p * c + q = A := ⟨_, rfl⟩
      obtain ⟨C, hC⟩ : ∃ C, t * c + q = C := ⟨_, rfl⟩
      have va0 : IntKind.i64.wrap ((p : Int) * (c : Int)) = (p : Int) * (c : Int) := IntWalk.i64_in _ (by rw [ca]; omega)
      have va1 : IntKind.i64.wrap ((p : Int) * (c : Int) + (q : Int)) = (A : Int) := by
        rw [show (p : Int) * (c : Int) + (q : Int) = (A : Int) by rw [ca, ← hA]; omega]
        exact IntWalk.i64_in _ (by omega)
      have vb0 : IntKind.i64.wrap ((t : Int) * (c : Int)) = (t : Int) * (c : Int) := IntWalk.i64_in _ (by rw [cb]; omega)
      have vb1 : IntKind.i64.wrap ((t : Int) * (c : Int) + (q : Int)) = (C : Int) := by
        rw [show (t : Int) * (c : Int) + (q : Int) = (C : Int) by rw [cb, ← hC]; omega]
        exact IntWalk.i64_in _ (by omega)
      have a0 : (0 : Int) ≤ (A : Int) := by omega
      have a1 : (A : Int) < (N : Int) := by omega
      have b0 : (0 : Int) ≤ (C : Int) := by omega
      have b1 : (C : Int) < (N : Int) := by omega
      have s0 := SS.out q hlt
      have oa := SA.out p q hp hlt
      have ob := SA.out t q ht hlt
      rw [hA] at oa s0
      rw [hC] at ob s0
      have h1 := I.out.cell (i := A) (by rw [SL.out]; omega)
      have h2 := I.out.cell (i := C) (by rw [SL.out]; omega)
      rw [oa] at h1
      rw [ob] at h2
      obtain ⟨x, hxx⟩ : ∃ x, xs.getD A 0 = x := ⟨_, rfl⟩
      obtain ⟨y, hyy⟩ : ∃ y, xs.getD C 0 = y := ⟨_, rfl⟩
      rw [hxx, hyy] at s0
      rw [hxx] at h1
      rw [hyy] at h2
      have S0 := Lib.hid s0
      have OY : Hid (A = C → x = y) := fun h => by rw [← hxx, ← hyy, h]
      have f1 := I.out.free A
      have C36 : C < N := by omega
      clear ca cb hA hC s0 oa ob hxx hyy ja jb
      go_wp2_with fail
      go_quiet (fail)
      have I := Lib.hid (I.out.drewN nq)
      have G := Lib.hid (grown_drewN_one G.out nq)
      have ng : w.heap.size ≠ g := by omega
      replace h1 : (wr.drewN nq).cell? ⟨g, A, none⟩ = some (.int .i64 x) := h1
      replace h2 : (wr.drewN nq).cell? ⟨g, C, none⟩ = some (.int .i64 y) := h2
      replace f1 : (wr.drewN nq).frozen? ⟨g, A, none⟩ = false := f1
      replace r0 : (wr.drewN nq).cell? ⟨w.heap.size, 0, none⟩ = some (.int .i64 r) := r0
      replace r1 : (wr.drewN nq).cell? ⟨w.heap.size, 1, none⟩ = some (.int .i64 c) := r1
      replace r2 : (wr.drewN nq).cell? ⟨w.heap.size, 2, none⟩ = some (.slice (some ⟨g, 0, none⟩) N cap) := r2
      generalize wr.drewN nq = wd at I G h1 h2 f1 r0 r1 r2
      go_upto_region 5 with fail
      have hS := Lib.hid (show wd.drew.cell? ⟨w.heap.size, 0, none⟩ = some (.int .i64 r) ∧ wd.drew.cell? ⟨w.heap.size, 1, none⟩ = some (.int .i64 c) ∧ wd.drew.cell? ⟨w.heap.size, 2, none⟩ = some (.slice (some ⟨g, 0, none⟩) N cap) from ⟨r0, r1, r2⟩)
      have G := Lib.hid (grown_drew_one G.out)
      have ID := I.out.drew
      have IS := ID.set A y
      have f2 := IS.free C
      have h3 := IS.cell (i := C) (by rw [List.length_set, SL.out]; omega)
      have IS2 := Lib.hid (IS.set C x)
      replace h1 : wd.drew.cell? ⟨g, A, none⟩ = some (.int .i64 x) := h1
      replace h2 : wd.drew.cell? ⟨g, C, none⟩ = some (.int .i64 y) := h2
      replace f1 : wd.drew.frozen? ⟨g, A, none⟩ = false := f1
      clear r0 r1 r2 I ID IS

      refine wp_region_held_drew (S := fun w' => w'.cell? ⟨w.heap.size, 0, none⟩ = some (.int .i64 r) ∧ w'.cell? ⟨w.heap.size, 1, none⟩ = some (.int .i64 c) ∧ w'.cell? ⟨w.heap.size, 2, none⟩ = some (.slice (some ⟨g, 0, none⟩) N cap)) (by kernel_rfl) hS.out (fun hH => ?_)
      (try dsimp only at hH)
      generalize wd.drew = we at hS G f2 h3 IS2 h1 h2 f1 hH ⊢
      refine wpAnyH_take (i := 0) (v := ?_) (by simp only [List.getElem?_toArray, List.getElem?_cons_zero]; rfl) (by kernel_rfl) (by kernel_rfl) (by kernel_rfl) (by exact fun _ _ _ h => h) (Or.inl ⟨by rfl, ?_⟩) hH ?_
      rotate_left
      · (intro wS hS; clear hS; go_simp; try rfl)
      try simp only [Act.put, List.setIfInBounds_toArray, List.set_cons_zero, List.set_cons_succ]
      refine wpAnyH_take (i := 1) (v := ?_) (by simp only [List.getElem?_toArray, List.getElem?_cons_succ, List.getElem?_cons_zero]; rfl) (by kernel_rfl) (by kernel_rfl) (by kernel_rfl) (by exact fun _ _ _ h => h) (Or.inl ⟨by rfl, ?_⟩) hH ?_
      rotate_left
      · (intro wS hS; (try dsimp only at hS); obtain ⟨k0, k1, k2⟩ := hS; go_simp; try rfl)
      try simp only [Act.put, List.setIfInBounds_toArray, List.set_cons_zero, List.set_cons_succ]
      refine wpAnyH_take (i := 2) (v := ?_) (by simp only [List.getElem?_toArray, List.getElem?_cons_succ, List.getElem?_cons_zero]; rfl) (by kernel_rfl) (by kernel_rfl) (by kernel_rfl) (by exact fun _ _ _ h => h) (Or.inl ⟨by rfl, ?_⟩) hH ?_
      rotate_left
      · (intro wS hS; clear hS; go_simp; try rfl)
      try simp only [Act.put, List.setIfInBounds_toArray, List.set_cons_zero, List.set_cons_succ]
      refine wpAnyH_take (i := 3) (v := ?_) (by simp only [List.getElem?_toArray, List.getElem?_cons_succ, List.getElem?_cons_zero]; rfl) (by kernel_rfl) (by kernel_rfl) (by kernel_rfl) (by exact fun _ _ _ h => h) (Or.inl ⟨by rfl, ?_⟩) hH ?_
      rotate_left
      · (intro wS hS; clear hS; go_simp; try rfl)
      try simp only [Act.put, List.setIfInBounds_toArray, List.set_cons_zero, List.set_cons_succ]
      refine wpAnyH_take (i := 4) (v := ?_) (by simp only [List.getElem?_toArray, List.getElem?_cons_succ, List.getElem?_cons_zero]; rfl) (by kernel_rfl) (by kernel_rfl) (by kernel_rfl) (by exact fun _ _ _ h => h) (Or.inl ⟨by rfl, ?_⟩) hH ?_
      rotate_left
      · (intro wS hS; (try dsimp only at hS); obtain ⟨k0, k1, k2⟩ := hS; go_simp; try rfl)
      try simp only [Act.put, List.setIfInBounds_toArray, List.set_cons_zero, List.set_cons_succ]
      refine wpAnyH_take (i := 5) (v := ?_) (by simp only [List.getElem?_toArray, List.getElem?_cons_succ, List.getElem?_cons_zero]; rfl) (by kernel_rfl) (by kernel_rfl) (by kernel_rfl) (by exact fun _ _ _ h => h) (Or.inl ⟨by rfl, ?_⟩) hH ?_
      rotate_left
      · (intro wS hS; clear hS; go_simp; try rfl)
      try simp only [Act.put, List.setIfInBounds_toArray, List.set_cons_zero, List.set_cons_succ]
      refine wpAnyH_take (i := 6) (v := ?_) (by simp only [List.getElem?_toArray, List.getElem?_cons_succ, List.getElem?_cons_zero]; rfl) (by kernel_rfl) (by kernel_rfl) (by kernel_rfl) (by exact fun _ _ _ h => h) (Or.inl ⟨by rfl, ?_⟩) hH ?_
      rotate_left
      · (intro wS hS; clear hS; go_simp; try rfl)
      try simp only [Act.put, List.setIfInBounds_toArray, List.set_cons_zero, List.set_cons_succ]
      refine wpAnyH_take (i := 7) (v := ?_) (by simp only [List.getElem?_toArray, List.getElem?_cons_succ, List.getElem?_cons_zero]; rfl) (by kernel_rfl) (by kernel_rfl) (by kernel_rfl) (by exact fun _ _ _ h => h) (Or.inl ⟨by rfl, ?_⟩) hH ?_
      rotate_left
      · (intro wS hS; (try dsimp only at hS); obtain ⟨k0, k1, k2⟩ := hS; go_simp; try rfl)
      try simp only [Act.put, List.setIfInBounds_toArray, List.set_cons_zero, List.set_cons_succ]
      refine wpAnyH_take (i := 8) (v := ?_) (by simp only [List.getElem?_toArray, List.getElem?_cons_succ, List.getElem?_cons_zero]; rfl) (by kernel_rfl) (by kernel_rfl) (by kernel_rfl) (by exact fun _ _ _ h => h) (Or.inl ⟨by rfl, ?_⟩) hH ?_
      rotate_left
      · (intro wS hS; clear hS; go_simp; try rfl)
      try simp only [Act.put, List.setIfInBounds_toArray, List.set_cons_zero, List.set_cons_succ]
      refine wpAnyH_take (i := 9) (v := ?_) (by simp only [List.getElem?_toArray, List.getElem?_cons_succ, List.getElem?_cons_zero]; rfl) (by kernel_rfl) (by kernel_rfl) (by kernel_rfl) (by exact fun _ _ _ h => h) (Or.inl ⟨by rfl, ?_⟩) hH ?_
      rotate_left
      · (intro wS hS; (try dsimp only at hS); obtain ⟨k0, k1, k2⟩ := hS; go_simp; try rfl)
      try simp only [Act.put, List.setIfInBounds_toArray, List.set_cons_zero, List.set_cons_succ]
      refine wpAnyH_take (i := 11) (v := ?_) (by simp only [List.getElem?_toArray, List.getElem?_cons_succ, List.getElem?_cons_zero]; rfl) (by kernel_rfl) (by kernel_rfl) (by kernel_rfl) (by exact fun _ _ _ h => h) (Or.inl ⟨by rfl, ?_⟩) hH ?_
      rotate_left
      · (intro wS hS; clear hS; go_simp; try rfl)
      try simp only [Act.put, List.setIfInBounds_toArray, List.set_cons_zero, List.set_cons_succ]
      refine wpAnyH_take (i := 12) (v := ?_) (by simp only [List.getElem?_toArray, List.getElem?_cons_succ, List.getElem?_cons_zero]; rfl) (by kernel_rfl) (by kernel_rfl) (by kernel_rfl) (by exact fun _ _ _ h => h) (Or.inl ⟨by rfl, ?_⟩) hH ?_
      rotate_left
      · (intro wS hS; (try dsimp only at hS); obtain ⟨k0, k1, k2⟩ := hS; go_simp; try rfl)
      try simp only [Act.put, List.setIfInBounds_toArray, List.set_cons_zero, List.set_cons_succ]
      refine wpAnyH_take (i := 13) (v := ?_) (by simp only [List.getElem?_toArray, List.getElem?_cons_succ, List.getElem?_cons_zero]; rfl) (by kernel_rfl) (by kernel_rfl) (by kernel_rfl) (by exact fun _ _ _ h => h) (Or.inl ⟨by rfl, ?_⟩) hH ?_
      rotate_left
      · (intro wS hS; clear hS; go_simp; try rfl)
      try simp only [Act.put, List.setIfInBounds_toArray, List.set_cons_zero, List.set_cons_succ]
      refine wpAnyH_take (i := 14) (v := ?_) (by simp only [List.getElem?_toArray, List.getElem?_cons_succ, List.getElem?_cons_zero]; rfl) (by kernel_rfl) (by kernel_rfl) (by kernel_rfl) (by exact fun _ _ _ h => h) (Or.inl ⟨by rfl, ?_⟩) hH ?_
      rotate_left
      · (intro wS hS; (try dsimp only at hS); obtain ⟨k0, k1, k2⟩ := hS; go_simp; try rfl)
      try simp only [Act.put, List.setIfInBounds_toArray, List.set_cons_zero, List.set_cons_succ]
      refine wpAnyH_ready (rs := [10, 15]) (by kernel_rfl) (by simp) ?_
      refine AllReadyH.cons (by simp only [List.getElem?_toArray, List.getElem?_cons_succ, List.getElem?_cons_zero]; rfl) (fun KK hKK => ?_) (AllReadyH.cons (by simp only [List.getElem?_toArray, List.getElem?_cons_succ, List.getElem?_cons_zero]; rfl) (fun KK hKK => ?_) AllReadyH.nil)
      · go_simp
        try dsimp only
        refine hKK.out _ _ ?_ (fun hH2 => ?_)
        · exact hH
        clear hKK KK
        have hO := hH
        clear hH
        have hH := hH2
        clear hH2
        try simp only [Act.put, List.setIfInBounds_toArray, List.set_cons_zero, List.set_cons_succ]
        refine wpAnyH_ready (rs := [15]) (by kernel_rfl) (by simp) ?_
        refine AllReadyH.cons (by simp only [List.getElem?_toArray, List.getElem?_cons_succ, List.getElem?_cons_zero]; rfl) (fun KK hKK => ?_) AllReadyH.nil
        go_simp
        try dsimp only
        refine hKK.out _ _ ?_ (fun hH2 => ?_)
        · exact hH
        clear hKK KK
        have hO := hH
        clear hH
        have hH := hH2
        clear hH2
        try simp only [Act.put, List.setIfInBounds_toArray, List.set_cons_zero, List.set_cons_succ]
        refine wpAnyH_take (i := 16) (v := ?_) (by simp only [List.getElem?_toArray, List.getElem?_cons_succ, List.getElem?_cons_zero]; rfl) (by kernel_rfl) (by kernel_rfl) (by kernel_rfl) (by exact fun _ _ _ h => h) (Or.inl ⟨by rfl, ?_⟩) hH ?_
        rotate_left
        · (intro wS hS; (try dsimp only at hS); obtain ⟨k0, k1, k2⟩ := hS; go_simp; try rfl)
        try simp only [Act.put, List.setIfInBounds_toArray, List.set_cons_zero, List.set_cons_succ]
        refine wpAnyH_ready (rs := [17]) (by kernel_rfl) (by simp) ?_
        refine AllReadyH.cons (by simp only [List.getElem?_toArray, List.getElem?_cons_succ, List.getElem?_cons_zero]; rfl) (fun KK hKK => ?_) AllReadyH.nil
        go_simp
        try dsimp only
        refine hKK.out _ _ ?_ (fun hH2 => ?_)
        · exact keepC hH ng _ _
        clear hKK KK
        have hO := hH
        clear hH
        have hH := hH2
        clear hH2
        try simp only [Act.put, List.setIfInBounds_toArray, List.set_cons_zero, List.set_cons_succ]
        refine wpAnyH_take (i := 18) (v := ?_) (by simp only [List.getElem?_toArray, List.getElem?_cons_succ, List.getElem?_cons_zero]; rfl) (by kernel_rfl) (by kernel_rfl) (by kernel_rfl) (by exact fun _ _ _ h => h) (Or.inl ⟨by rfl, ?_⟩) hH ?_
        rotate_left
        · (intro wS hS; (try dsimp only at hS); obtain ⟨k0, k1, k2⟩ := hS; go_simp; try rfl)
        try simp only [Act.put, List.setIfInBounds_toArray, List.set_cons_zero, List.set_cons_succ]
        refine wpAnyH_ready (rs := [19]) (by kernel_rfl) (by simp) ?_
        refine AllReadyH.cons (by simp only [List.getElem?_toArray, List.getElem?_cons_succ, List.getElem?_cons_zero]; rfl) (fun KK hKK => ?_) AllReadyH.nil
        go_simp
        try dsimp only
        refine hKK.out _ _ ?_ (fun hH2 => ?_)
        · exact keepC hH ng _ _
        clear hKK KK
        have hO := hH
        clear hH
        have hH := hH2
        clear hH2
        try simp only [Act.put, List.setIfInBounds_toArray, List.set_cons_zero, List.set_cons_succ]
        refine wpAnyH_done (by kernel_rfl) ?_ _
        go_wp2_with fail
        go_roundw
        case rel => exact ⟨q + 1, by go_num, by omega, by rw [← S0.out]; exact IS2.out, grown_set_one (a := ⟨g, C, none⟩) (grown_set_one (a := ⟨g, A, none⟩) G.out rfl _) rfl _⟩
        case measure => simp [intOf]; omega
      · go_simp
        try dsimp only
        refine hKK.out _ _ ?_ (fun hH2 => ?_)
        · exact hH
        clear hKK KK
        have hO := hH
        clear hH
        have hH := hH2
        clear hH2
        try simp only [Act.put, List.setIfInBounds_toArray, List.set_cons_zero, List.set_cons_succ]
        refine wpAnyH_ready (rs := [10]) (by kernel_rfl) (by simp) ?_
        refine AllReadyH.cons (by simp only [List.getElem?_toArray, List.getElem?_cons_succ, List.getElem?_cons_zero]; rfl) (fun KK hKK => ?_) AllReadyH.nil
        go_simp
        try dsimp only
        refine hKK.out _ _ ?_ (fun hH2 => ?_)
        · exact hH
        clear hKK KK
        have hO := hH
        clear hH
        have hH := hH2
        clear hH2
        try simp only [Act.put, List.setIfInBounds_toArray, List.set_cons_zero, List.set_cons_succ]
        refine wpAnyH_take (i := 16) (v := ?_) (by simp only [List.getElem?_toArray, List.getElem?_cons_succ, List.getElem?_cons_zero]; rfl) (by kernel_rfl) (by kernel_rfl) (by kernel_rfl) (by exact fun _ _ _ h => h) (Or.inl ⟨by rfl, ?_⟩) hH ?_
        rotate_left
        · (intro wS hS; (try dsimp only at hS); obtain ⟨k0, k1, k2⟩ := hS; go_simp; try rfl)
        try simp only [Act.put, List.setIfInBounds_toArray, List.set_cons_zero, List.set_cons_succ]
        refine wpAnyH_ready (rs := [17]) (by kernel_rfl) (by simp) ?_
        refine AllReadyH.cons (by simp only [List.getElem?_toArray, List.getElem?_cons_succ, List.getElem?_cons_zero]; rfl) (fun KK hKK => ?_) AllReadyH.nil
        go_simp
        try dsimp only
        refine hKK.out _ _ ?_ (fun hH2 => ?_)
        · exact keepC hH ng _ _
        clear hKK KK
        have hO := hH
        clear hH
        have hH := hH2
        clear hH2
        try simp only [Act.put, List.setIfInBounds_toArray, List.set_cons_zero, List.set_cons_succ]
        refine wpAnyH_take (i := 18) (v := ?_) (by simp only [List.getElem?_toArray, List.getElem?_cons_succ, List.getElem?_cons_zero]; rfl) (by kernel_rfl) (by kernel_rfl) (by kernel_rfl) (by exact fun _ _ _ h => h) (Or.inl ⟨by rfl, ?_⟩) hH ?_
        rotate_left
        · (intro wS hS; (try dsimp only at hS); obtain ⟨k0, k1, k2⟩ := hS; go_simp; try rfl)
        try simp only [Act.put, List.setIfInBounds_toArray, List.set_cons_zero, List.set_cons_succ]
        refine wpAnyH_ready (rs := [19]) (by kernel_rfl) (by simp) ?_
        refine AllReadyH.cons (by simp only [List.getElem?_toArray, List.getElem?_cons_succ, List.getElem?_cons_zero]; rfl) (fun KK hKK => ?_) AllReadyH.nil
        go_simp
        try dsimp only
        refine hKK.out _ _ ?_ (fun hH2 => ?_)
        · exact keepC hH ng _ _
        clear hKK KK
        have hO := hH
        clear hH
        have hH := hH2
        clear hH2
        try simp only [Act.put, List.setIfInBounds_toArray, List.set_cons_zero, List.set_cons_succ]
        refine wpAnyH_done (by kernel_rfl) ?_ _
        go_wp2_with fail
        go_roundw
        case rel => exact ⟨q + 1, by go_num, by omega, by rw [← S0.out]; exact IS2.out, grown_set_one (a := ⟨g, C, none⟩) (grown_set_one (a := ⟨g, A, none⟩) G.out rfl _) rfl _⟩
        case measure => simp [intOf]; omega
    · obtain rfl : c = q := by omega
      clear hlt
      go_wp2_with fail
      go_end0
      exact ⟨rfl, by rw [← SE.out]; exact I.out, GW.out.trans G.out⟩
end Go.Proofs.Ytbdofgkcedpamaa
end

section
/-
  Chapter 1, in the program: GcdOf.
-/
namespace Go.Proofs.Ytbdofgkcedpamaa
open Go.RowKit

theorem iGcd (a b : Int) (w : World) (ha : -400000000 ≤ a ∧ a ≤ 400000000) (hb : -400000000 ≤ b ∧ b ≤ 400000000) :
    Calls Try.prog 92 #[.int .i64 a, .int .i64 b] w fun e w' => e = .returned (.int .i64 (Int.gcd a b : Int)) ∧ ∃ n, w' = w.drewN n := by
  go_enter Try.func92, Try.ntmps92
  go_wp2_with fail
  refine (iIsNum_t _ _ ha.1 ha.2).mono ?_
  rintro e w' ⟨rfl, rfl⟩
  go_wp2_with fail
  refine (iIsNum_t _ _ hb.1 hb.2).mono ?_
  rintro e w' ⟨rfl, rfl⟩
  go_wp2_with fail
  refine (iGD a b _ (by omega) (by omega)).mono ?_
  rintro e w' ⟨rfl, n, rfl⟩
  go_wp2_with fail
  go_ret
  exact ⟨rfl, n, rfl⟩
theorem iGcd_f (a b : Int) (w : World) (h : ¬ ((-400000000 ≤ a ∧ a ≤ 400000000) ∧ (-400000000 ≤ b ∧ b ≤ 400000000))) :
    Calls Try.prog 92 #[.int .i64 a, .int .i64 b] w fun e w' => e = .returned (.int .i64 0) ∧ w = w' := by
  by_cases ha : -400000000 ≤ a ∧ a ≤ 400000000
  · have hb : b < -400000000 ∨ 400000000 < b := by omega
    clear h
    go_enter Try.func92, Try.ntmps92
    go_wp2_with fail
    refine (iIsNum_t _ _ ha.1 ha.2).mono ?_
    rintro e w' ⟨rfl, rfl⟩
    go_wp2_with fail
    refine (iIsNum_f _ _ hb).mono ?_
    rintro e w' ⟨rfl, rfl⟩
    go_wp2_with fail
    go_ret
    exact ⟨rfl, rfl⟩
  · have ha' : a < -400000000 ∨ 400000000 < a := by omega
    clear h ha
    go_enter Try.func92, Try.ntmps92
    go_wp2_with fail
    refine (iIsNum_f _ _ ha').mono ?_
    rintro e w' ⟨rfl, rfl⟩
    go_wp2_with fail
    go_ret
    exact ⟨rfl, rfl⟩


end Go.Proofs.Ytbdofgkcedpamaa
end

section
/-
  Chapter 7, in the program: a row without its cell in the pivot's column.
-/
namespace Go.Proofs.Ytbdofgkcedpamaa
set_option maxRecDepth 100000
open Go.RowKit

set_option maxHeartbeats 2000000 in
theorem iClear (r c i t j N g mi mt : Nat) (xs : List Int) (w : World) (hN : N = r * c) (hx : xs.length = N) (hr : r ≤ 24) (hc : c ≤ 24) (hir : i < r) (htr : t < r) (hit : i ≠ t) (hj : j < c) (nx : nums xs = true) (hy0 : mxC c xs t j ≠ 0) (hi : Ints w g xs) :
    Calls Try.prog 56 #[.slice (some ⟨g, i * c, none⟩) c mi, .slice (some ⟨g, t * c, none⟩) c mt, .int .i64 j] w (fun e w' => ((e = .returned (.bool true) ∧ rowN c (rdV j (mxC c xs i) (mxC c xs t)) = true ∧ Ints w' g (rowL r c i (rdV j (mxC c xs i) (mxC c xs t)) xs)) ∨ (e = .returned (.bool false) ∧ rowN c (rdV j (mxC c xs i) (mxC c xs t)) ≠ true)) ∧ w.grownBy w' (some g)) := by
  have hl : xs.length = r * c := by rw [hx, hN]
  have hle : r * c ≤ 24 * 24 := Nat.mul_le_mul hr hc
  rw [← hN] at hle
  have IL : Hid (∀ i q, i < r → q < c → i * c + q < N) := fun i q hi hq => by rw [hN]; exact idx_lt hi hq
  have NI : Hid (∀ k, k < c → NumP (mxC c xs i k)) := fun k hk => mx_nums hl nx hir hk
  have NT : Hid (∀ k, k < c → NumP (mxC c xs t k)) := fun k hk => mx_nums hl nx htr hk
  have CI : Hid (∀ k, k < c → w.cell? ⟨g, i * c + k, none⟩ = some (.int .i64 (mxC c xs i k))) := fun k hk => hi.cell (by rw [hl]; exact idx_lt hir hk)
  have CT : Hid (∀ k, k < c → w.cell? ⟨g, t * c + k, none⟩ = some (.int .i64 (mxC c xs t k))) := fun k hk => hi.cell (by rw [hl]; exact idx_lt htr hk)
  have RT : Hid (∀ k, k < c → (rowTo r c i (rdV j (mxC c xs i) (mxC c xs t)) xs k).set (i * c + k) (rdV j (mxC c xs i) (mxC c xs t) k) = rowTo r c i (rdV j (mxC c xs i) (mxC c xs t)) xs (k + 1)) := fun k hk => rowTo_step hir hk
  have RX : Hid (∀ k, k < c → (rowTo r c i (rdV j (mxC c xs i) (mxC c xs t)) xs k).getD (i * c + k) 0 = mxC c xs i k) := fun k hk => rowTo_old hir hk (.inr (Nat.le_refl _))
  have RY : Hid (∀ k, k < c → (rowTo r c i (rdV j (mxC c xs i) (mxC c xs t)) xs k).getD (t * c + k) 0 = mxC c xs t k) := fun k hk => rowTo_old htr hk (.inl (fun e => hit e.symm))
  have RL : Hid (∀ k, (rowTo r c i (rdV j (mxC c xs i) (mxC c xs t)) xs k).length = N) := fun k => by rw [rowTo_length, hN]
  have RZ : Hid (rowTo r c i (rdV j (mxC c xs i) (mxC c xs t)) xs 0 = xs) := rowTo_zero hl
  have RA : Hid (rowTo r c i (rdV j (mxC c xs i) (mxC c xs t)) xs c = rowL r c i (rdV j (mxC c xs i) (mxC c xs t)) xs) := rowTo_all
  have hxn := NI.out j hj
  have hyn := NT.out j hj
  have hcx := CI.out j hj
  have hcy := CT.out j hj
  have UV : Hid (∀ h, rdV j (mxC c xs i) (mxC c xs t) h = (mxC c xs t j).tdiv ((mxC c xs i j).gcd (mxC c xs t j)) * mxC c xs i h - (mxC c xs i j).tdiv ((mxC c xs i j).gcd (mxC c xs t j)) * mxC c xs t h) := fun _ => rfl
  have I := Lib.hid hi
  have lg := hi.lt
  generalize rdV j (mxC c xs i) (mxC c xs t) = u at RT RX RY RL RZ RA UV ⊢
  generalize mxC c xs i j = x at hxn hcx UV
  generalize mxC c xs t j = y at hyn hcy UV hy0
  obtain ⟨Di, hDi⟩ : ∃ D, i * c = D := ⟨_, rfl⟩
  obtain ⟨Dt, hDt⟩ : ∃ D, t * c = D := ⟨_, rfl⟩
  have LI : Hid (∀ q, q < c → Di + q < N) := fun q hq => by rw [← hDi]; exact IL.out i q hir hq
  have LT : Hid (∀ q, q < c → Dt + q < N) := fun q hq => by rw [← hDt]; exact IL.out t q htr hq
  rw [hDi] at CI RT RX hcx ⊢
  rw [hDt] at CT RY hcy ⊢
  have hxn' := hxn
  have hyn' := hyn
  unfold NumP at hxn' hyn'
  clear hl hx hN hDi hDt hi nx IL
  go_enter Try.func56, Try.ntmps56
  go_wp2_with fail
  go_quiet (fail)
  have I := Lib.hid (I.out.drewN nq)
  have G := Lib.hid (grown_drewN_one (World.grownBy.refl w (some g)) nq)
  generalize w.drewN nq = w2 at I G ⊢
  go_wp2_with fail
  refine (iGcd x y _ (by omega) (by omega)).mono ?_
  rintro e w3 ⟨rfl, n, rfl⟩
  have I := Lib.hid (I.out.drewN n)
  have G := Lib.hid (grown_drewN_one G.out n)
  generalize w2.drewN n = w3 at I G ⊢
  have hgp : 0 < x.gcd y := Int.gcd_pos_of_ne_zero_right x hy0
  obtain ⟨gg, hgg⟩ : ∃ gg : Int, (x.gcd y : Int) = gg := ⟨_, rfl⟩
  rw [hgg] at UV ⊢
  have g1 : gg ≠ 0 := by omega
  have g2 : (gg == 0) = false := by simpa using g1
  have b1 := tdiv_bb (y := gg) hxn.1 hxn.2
  have b2 := tdiv_bb (y := gg) hyn.1 hyn.2
  obtain ⟨qx, hqx⟩ : ∃ qx, x.tdiv gg = qx := ⟨_, rfl⟩
  obtain ⟨qy, hqy⟩ : ∃ qy, y.tdiv gg = qy := ⟨_, rfl⟩
  rw [hqx] at UV b1
  rw [hqy] at UV b2
  have wx : IntKind.i64.wrap qx = qx := IntWalk.i64_in _ (by omega)
  have wy : IntKind.i64.wrap qy = qy := IntWalk.i64_in _ (by omega)
  clear hgp hgg hcx hcy hxn hyn
  go_wp2_with fail
  go_loopw [10, 24] (fun _ v24 wr => ∃ h : Nat, v24 = .int .i64 h ∧ h ≤ c ∧ (∀ k, k < h → NumP (u k)) ∧ Ints wr g (rowTo r c i u xs h) ∧ w.grownBy wr (some g)) (fun _ v24 _ => c - (intOf v24).toNat)
  case atStart => exact ⟨0, rfl, by omega, fun k hk => by omega, by rw [RZ.out]; exact I.out, G.out⟩
  case round =>
    clear I G
    obtain ⟨h, rfl, hh, hhn, hi, hgr⟩ := hrel
    have I := Lib.hid hi
    have G := Lib.hid hgr
    have HH := Lib.hid hhn
    clear hi hgr hhn
    by_cases hlt : h < c
    · have hca := I.out.cell (i := Di + h) (by rw [RL.out]; exact LI.out h hlt)
      have hcb := I.out.cell (i := Dt + h) (by rw [RL.out]; exact LT.out h hlt)
      have hfr := I.out.free (Di + h)
      rw [RX.out h hlt] at hca
      rw [RY.out h hlt] at hcb
      have na := NI.out h hlt
      have nb := NT.out h hlt
      have uv := UV.out h
      have RS := Lib.hid (RT.out h hlt)
      generalize mxC c xs i h = ea at hca na uv
      generalize mxC c xs t h = eb at hcb nb uv
      have m1 := mul_num qy ea b2 na
      have m2 := mul_num qx eb b1 nb
      have v1 : IntKind.i64.wrap (qy * ea) = qy * ea := IntWalk.i64_in _ (by omega)
      have v2 : IntKind.i64.wrap (qx * eb) = qx * eb := IntWalk.i64_in _ (by omega)
      have v3 : IntKind.i64.wrap (qy * ea - qx * eb) = qy * ea - qx * eb := IntWalk.i64_in _ (by omega)
      obtain ⟨z, hz⟩ : ∃ z, u h = z := ⟨_, rfl⟩
      have Z := Lib.hid hz
      rw [hz] at uv RS
      have q0 : qy * ea - qx * eb = z := uv.symm
      rw [q0] at v3
      have IS := Lib.hid (I.out.set (Di + h) z)
      have GS := Lib.hid (grown_set_one (a := ⟨g, Di + h, none⟩) G.out rfl (.int .i64 z))
      clear na nb m1 m2 hz uv
      go_wp2_with fail
      go_still_tail 20, (by kernel_rfl)
      go_wp2_with fail
      refine (iIsNum z _).mono ?_
      rintro e w6 ⟨rfl, rfl⟩
      have I6 := Lib.hid IS.out.drew
      have G6 := Lib.hid (grown_drew_one GS.out)
      by_cases hzn : NumP z
      · have HH2 : Hid (∀ k, k < h + 1 → NumP (u k)) := fun k hk => by
          rcases Nat.lt_or_ge k h with h3 | h3
          · exact HH.out k h3
          · obtain rfl : k = h := by omega
            rw [Z.out]; exact hzn
        rw [decide_eq_true hzn]
        clear hzn
        go_wp2_with fail
        go_roundw
        case rel => exact ⟨h + 1, by go_num, by omega, HH2.out, by rw [← RS.out]; exact I6.out, G6.out⟩
        case measure => simp [intOf]; omega
      · have RB : Hid (rowN c u ≠ true) := fun h1 => hzn (by rw [← Z.out]; exact rowN_iff.mp h1 h hlt)
        rw [decide_eq_false hzn]
        clear hzn
        go_wp2_with fail
        go_ret
        exact ⟨.inr ⟨rfl, RB.out⟩, G6.out⟩
    · obtain rfl : c = h := by omega
      clear hlt
      have RW : Hid (rowN c u = true) := rowN_iff.mpr HH.out
      go_wp2_with fail
      go_ret
      exact ⟨.inl ⟨rfl, RW.out, by rw [← RA.out]; exact I.out⟩, G.out⟩
end Go.Proofs.Ytbdofgkcedpamaa
end

section
/-
  Chapter 7, in the program: the elimination.
-/
namespace Go.Proofs.Ytbdofgkcedpamaa
set_option maxRecDepth 100000
open Go.RowKit

theorem OwnQ.ne_blk {B b : Nat} {w : World} {v : Value} {zs : List Int} {x y z : Value} (h : OwnQ B w v zs) (k : Blk3 w b 26 x y z) : v.ownBlock ≠ some b := fun e => by
  obtain ⟨h1, ⟨h2, h3⟩ | ⟨g, cap, cur, rfl, hB, hg, rest⟩⟩ := h
  · rw [h2] at e; cases e
  · simp only [Value.ownBlock, Option.some.injEq] at e
    subst e
    unfold Blk3 at k
    rw [hg] at k
    injection k with k
    injection k with _ k2 _
    exact absurd k2 (by decide)
/-- The worlds of the walk: the copy's box, the result's block, the cells, the pivots. -/
structure EpSt (w : World) (B b rb r c N cap g : Nat) (q : Option Addr) (ys : List Int) (v : Value) (pv : List Nat) (wr : World) : Prop where
  blk : Blk3 wr b 26 (.int .i64 r) (.int .i64 c) (.slice q N cap)
  ret : Blk3 wr rb 26 (.int .i64 0) (.int .i64 0) (.slice none 0 0)
  cel : Cel wr q N cap g ys
  own : OwnQ B wr v (pvI pv)
  bel : Below w.heap.size w wr
  le : B ≤ wr.heap.size
theorem EpSt.one {w : World} {B b rb r c N cap g : Nat} {q : Option Addr} {ys ys' : List Int} {v : Value} {pv : List Nat} {wr w' : World} (h : EpSt w B b rb r c N cap g q ys v pv wr) (hi : Cel w' q N cap g ys') (hg : wr.grownBy w' (some g)) (hb : b ≠ g) (hr : rb ≠ g) (hB : g < B) (hw : w.heap.size ≤ g) : EpSt w B b rb r c N cap g q ys' v pv w' :=
  ⟨h.blk.keepOne hg hb, h.ret.keepOne hg hr, hi, h.own.one hg hB, h.bel.trans (below_of_one hg hw h.bel.size), Nat.le_trans h.le hg.size⟩
theorem EpSt.below {w : World} {B b rb r c N cap g : Nat} {q : Option Addr} {ys : List Int} {v : Value} {pv : List Nat} {wr w' : World} (h : EpSt w B b rb r c N cap g q ys v pv wr) (hb : Below wr.heap.size wr w') : EpSt w B b rb r c N cap g q ys v pv w' :=
  ⟨h.blk.step hb, h.ret.step hb, h.cel.keep hb, h.own.keep hb, h.bel.trans (hb.mono h.bel.size), Nat.le_trans h.le hb.size⟩
theorem EpSt.drewN {w : World} {B b rb r c N cap g : Nat} {q : Option Addr} {ys : List Int} {v : Value} {pv : List Nat} {wr : World} (h : EpSt w B b rb r c N cap g q ys v pv wr) (n : Nat) : EpSt w B b rb r c N cap g q ys v pv (wr.drewN n) :=
  ⟨h.blk.drewN n, h.ret.drewN n, h.cel.drewN n, h.own.drewN n, below_drewN h.bel n, h.le⟩
theorem EpSt.drew {w : World} {B b rb r c N cap g : Nat} {q : Option Addr} {ys : List Int} {v : Value} {pv : List Nat} {wr : World} (h : EpSt w B b rb r c N cap g q ys v pv wr) : EpSt w B b rb r c N cap g q ys v pv wr.drew := h.drewN 1
theorem EpSt.app {w : World} {B b rb r c N cap g : Nat} {q : Option Addr} {ys : List Int} {v v' : Value} {pv pv' : List Nat} {wr w' : World} (h : EpSt w B b rb r c N cap g q ys v pv wr) {o : Obj} (hg : (wr.alloc o).grownBy w' v.ownBlock) (ho : OwnQ B w' v' (pvI pv')) (hgB : g < B) (hw : w.heap.size ≤ B) : EpSt w B b rb r c N cap g q ys v' pv' w' := by
  have keep : ∀ k, v.ownBlock ≠ some k → k < wr.heap.size → w'.heap[k]? = wr.heap[k]? := fun k hk hl => (hg.block k (by simp; omega) (fun e => hk e.symm)).trans (Below.heap_alloc wr o k hl)
  have hs := hg.size
  simp at hs
  have hl := h.le
  exact ⟨(keep b (h.own.ne_blk h.blk) h.blk.lt).trans h.blk, (keep rb (h.own.ne_blk h.ret) h.ret.lt).trans h.ret, h.cel.move fun hl => keep g (fun e => by have := h.own.le e; omega) hl, ho, h.bel.trans ⟨hg.os, hg.tape, hg.output, by omega, fun k hk => keep k (fun e => by have := h.own.le e; omega) (by omega)⟩, by omega⟩
theorem OwnQ.far_ne {B : Nat} {w : World} {v : Value} {zs : List Int} (h : OwnQ B w v zs) {a : Addr} (ha : v.ownBlock ≠ some a.block) (u : Value) : OwnQ B (w.setCell a u) v zs :=
  h.move fun k hk => Below.heap_setCell w a u k (fun e => ha (by rw [hk, e]))
theorem EpSt.end_ {w : World} {B b rb r c N cap g : Nat} {q : Option Addr} {ys : List Int} {qv : Option Addr} {n qc : Nat} {pv : List Nat} {wr : World} (h : EpSt w B b rb r c N cap g q ys (.slice qv n qc) pv wr) (hN : N ≤ 576) (hpv : pv.length ≤ 24) (hgB : g < B) (hw : w.heap.size ≤ g) (hrw : w.heap.size ≤ rb) (hrg : rb ≠ g) (x y z : Value) :
    EchP w r c (some (ys, pv)) (.returned (.tuple #[.agg #[.int .i64 r, .int .i64 c, .slice q N cap], .slice qv n qc, .bool true])) (((wr.setCell ⟨rb, 0, none⟩ x).setCell ⟨rb, 1, none⟩ y).setCell ⟨rb, 2, none⟩ z) := by
  have hne := h.own.ne_blk h.ret
  refine .inl ⟨_, _, ys, pv, rfl, rfl, ?_, ?_, fun k hk e => ?_, ?_⟩
  · refine Cel.own (g := g) (h.cel.move fun _ => ?_) hw (by omega)
    exact ((Below.heap_setCell _ _ z g (by show g ≠ rb; omega)).trans (Below.heap_setCell _ _ y g (by show g ≠ rb; omega))).trans (Below.heap_setCell _ _ x g (by show g ≠ rb; omega))
  · exact ((((h.own.far_ne (a := ⟨rb, 0, none⟩) hne x).far_ne (a := ⟨rb, 1, none⟩) hne y).far_ne (a := ⟨rb, 2, none⟩) hne z).lower (by omega)).own (by rw [pvI_length]; omega)
  · have h1 := h.own.le e
    rcases h.cel with ⟨rfl, -⟩ | ⟨rfl, -⟩
    · cases hk
    · simp only [Value.ownBlock, Option.some.injEq] at hk
      omega
  · exact ((h.bel.setCell hrw x).setCell hrw y).setCell hrw z
theorem ep_bad {w wr : World} {rb r c : Nat} (hb : Below w.heap.size w wr) (hrw : w.heap.size ≤ rb) (x y z : Value) :
    EchP w r c none (.returned (.tuple #[.agg #[.int .i64 0, .int .i64 0, .slice none 0 0], .slice none 0 0, .bool false])) (((wr.setCell ⟨rb, 0, none⟩ x).setCell ⟨rb, 1, none⟩ y).setCell ⟨rb, 2, none⟩ z) :=
  .inr ⟨_, rfl, rfl, .inl ⟨rfl, rfl⟩, ((hb.setCell hrw x).setCell hrw y).setCell hrw z⟩
theorem cel3 {w : World} {b : Nat} {x y z : Value} (h : Blk3 w b 26 x y z) : w.cell? ⟨b, 0, none⟩ = some x ∧ w.cell? ⟨b, 1, none⟩ = some y ∧ w.cell? ⟨b, 2, none⟩ = some z := ⟨h.all.1, h.all.2.1, h.all.2.2.1⟩
end Go.Proofs.Ytbdofgkcedpamaa
end

section
/-
  Chapter 7, in the program: the elimination, walked.
-/
namespace Go.Proofs.Ytbdofgkcedpamaa
set_option maxRecDepth 100000
open Go.RowKit

set_option maxHeartbeats 4000000 in
theorem iEch (r c N : Nat) (a : Option Addr) (m : Nat) (xs : List Int) (w : World) (h : Rd w a xs) (hx : xs.length = N) (hN : N = r * c) (hr : r ≤ 24) (hc : c ≤ 24) (nx : nums xs = true) (hm : isMat r c xs = true) :
    Calls Try.prog 15 #[.agg #[.int .i64 r, .int .i64 c, .slice a N m]] w (EchP w r c (echM r c xs)) := by
  have hle : r * c ≤ 24 * 24 := Nat.mul_le_mul hr hc
  rw [← hN] at hle
  have IM : Hid (∀ w', Below w.heap.size w w' → Calls Try.prog 49 #[.agg #[.int .i64 r, .int .i64 c, .slice a N m]] w' (Gives (.bool true) w')) := fun w' hb => by
    have := iIsMat r c a m xs w' (h.below hb) (by omega)
    rw [hx, hm] at this
    exact this
  have CP : Hid (∀ w', Below w.heap.size w w' → Calls Try.prog 50 #[.agg #[.int .i64 r, .int .i64 c, .slice a N m]] w' (CopyM r c N xs w')) := fun w' hb => iCopyOf r c a m N xs hx w' (h.below hb) (by omega)
  have EI : Hid (EInv r c (mxC c xs) (prTo r c r xs) [] 0) := EInv.start (by rw [hx, hN]) nx
  have HR : Hid (echC r c c 0 (prTo r c r xs) [] = echM r c xs) := rfl
  generalize echM r c xs = RES at HR ⊢
  have PZ : Hid (prTo r c 0 xs = xs) := prTo_zero (by rw [hx, hN])
  have PN : Hid (∀ i, nums (prTo r c i xs) = true) := fun i => prTo_nums (by rw [hx, hN]) nx
  have PS : Hid (∀ i, i < r → prL r c i (prTo r c i xs) = prTo r c (i + 1) xs) := fun i hi => prTo_step hi
  have HN := Lib.hid hN
  have DL : Hid (∀ i, i < r → i * c + c ≤ N) := fun i hi => by rw [hN, ← Nat.succ_mul]; exact Nat.mul_le_mul_right _ hi
  clear hN hx nx h hm
  go_enter Try.func15, Try.ntmps15
  go_upto_region 1 with fail
  have K0 : Hid (Blk3 ((w.alloc (.cells #[.int .i64 r, .int .i64 c, .slice a N m] 26)).alloc (.cells #[.int .i64 0, .int .i64 0, .slice none 0 0] 26)) w.heap.size 26 (.int .i64 r) (.int .i64 c) (.slice a N m)) := (Blk3.at_ _ _ _ _ rfl).old _
  have R0 : Hid (Blk3 ((w.alloc (.cells #[.int .i64 r, .int .i64 c, .slice a N m] 26)).alloc (.cells #[.int .i64 0, .int .i64 0, .slice none 0 0] 26)) (w.heap.size + 1) 26 (.int .i64 0) (.int .i64 0) (.slice none 0 0)) := Blk3.at_ _ _ _ _ (by simp)
  have B0 : Hid (Below w.heap.size w ((w.alloc (.cells #[.int .i64 r, .int .i64 c, .slice a N m] 26)).alloc (.cells #[.int .i64 0, .int .i64 0, .slice none 0 0] 26))) := ((Below.refl _ _).alloc (Nat.le_refl _) _).alloc (by simp) _
  have S0 : Hid (((w.alloc (.cells #[.int .i64 r, .int .i64 c, .slice a N m] 26)).alloc (.cells #[.int .i64 0, .int .i64 0, .slice none 0 0] 26)).heap.size = w.heap.size + 2) := by show _ = _; simp
  generalize (w.alloc (.cells #[.int .i64 r, .int .i64 c, .slice a N m] 26)).alloc (.cells #[.int .i64 0, .int .i64 0, .slice none 0 0] 26) = W0 at K0 R0 B0 S0 ⊢
  obtain ⟨p0, p1, p2, -, -, -⟩ := K0.out.all
  go_wp2_with fail
  refine (IM.out _ B0.out).mono ?_
  rintro e w1 ⟨rfl, hb⟩
  have s0 := S0.out
  have sb := hb.size
  have K1 := Lib.hid (K0.out.step hb)
  have R1 := Lib.hid (R0.out.step hb)
  have B1 := Lib.hid (B0.out.trans (hb.mono (by omega)))
  clear hb K0 R0 B0 S0 p0 p1 p2 IM
  obtain ⟨p0, p1, p2, -, -, -⟩ := K1.out.all
  go_wp2_with fail
  refine (CP.out _ B1.out).mono ?_
  rintro e w2 ⟨q, cap, rfl, own, hb⟩
  have R2 := Lib.hid (R1.out.step hb)
  have B2 := Lib.hid (B1.out.trans (hb.mono (by omega)))
  have sb2 := hb.size
  obtain ⟨g, C2, g1, g2, g3⟩ : ∃ g, Cel w2 q N cap g xs ∧ w.heap.size ≤ g ∧ g < w2.heap.size ∧ g ≠ w.heap.size + 1 := by
    rcases own with ⟨e, e2⟩ | ⟨g, c', e, hB, hi, hl, -⟩
    · injection e with e1 e3 e4
      exact ⟨w.heap.size, .inl ⟨e1, e4, e3, e2⟩, by omega, by omega, by omega⟩
    · injection e with e1 e3 e4
      subst e1
      exact ⟨g, .inr ⟨rfl, by omega, e3.symm, hi⟩, by omega, hi.lt, by omega⟩
  clear own hb p0 p1 p2 K1 R1 B1 CP
  obtain ⟨rb, hrb⟩ : ∃ rb, w.heap.size + 1 = rb := ⟨_, rfl⟩
  have lrb : w.heap.size ≤ rb := by omega
  rw [hrb] at R2 g3 ⊢
  obtain ⟨B, hB⟩ : ∃ B, w2.heap.size = B := ⟨_, rfl⟩
  have ST : Hid (EpSt w B (B + 1) rb r c N cap g q xs (.slice (some ⟨B, 0, none⟩) 0 0) [] ((w2.alloc (.cells #[] 3)).alloc (.cells #[.int .i64 r, .int .i64 c, .slice q N cap] 26))) :=
    ⟨Blk3.at_ _ _ _ _ (by simp; omega), (R2.out.old _).old _, (C2.keep (Below.alloc (Below.refl _ _) (Nat.le_refl _) _)).keep (Below.alloc (Below.refl _ _) (Nat.le_refl _) _),
      (OwnQ.none_ (Nat.le_refl _) ⟨Nat.zero_le _, [], rfl, by rw [← hB]; exact heap_alloc_new w2 _⟩).keep (Below.alloc (Below.refl _ _) (Nat.le_refl _) _), (B2.out.alloc B2.out.size _).alloc (by have := B2.out.size; simp; omega) _, by simp; omega⟩
  have lgB : g < B := by omega
  have lwB : w.heap.size ≤ B := by omega
  have S2 : Hid ((w2.alloc (.cells #[] 3)).heap.size = B + 1) := by show _ = _; simp; omega
  go_upto_region 4 with fail
  generalize (w2.alloc (.cells #[] 3)).alloc (.cells #[.int .i64 r, .int .i64 c, .slice q N cap] 26) = W at ST ⊢
  clear S2 hB R2 B2 C2 g2 sb sb2 s0 hrb w2 w1 W0
  obtain ⟨b, hb⟩ : ∃ b, B + 1 = b := ⟨_, rfl⟩
  rw [hb] at ST ⊢
  have lb : b ≠ g := by omega
  clear hb
  have PM : Hid (∀ (i : Nat) (ys : List Int) (w' : World), i < r → nums ys = true → Blk3 w' b 26 (.int .i64 r) (.int .i64 c) (.slice q N cap) → Cel w' q N cap g ys → Calls Try.prog 51 #[.int .i64 i, .pointer (some ⟨b, 0, none⟩)] w' (fun e w2 => Void e ∧ Cel w2 q N cap g (prL r c i ys) ∧ w'.grownBy w2 (some g))) := fun i ys w' hi hn K C => iPrim r c i N b cap g q ys w' HN.out hr hc hi hn K C
  obtain ⟨p0, p1, p2, -, -, -⟩ := ST.out.blk.all
  go_wp2_with fail
  clear p0 p1 p2
  go_loopw [8, 23] (fun _ v23 wr => ∃ i : Nat, v23 = .int .i64 i ∧ i ≤ r ∧ EpSt w B b rb r c N cap g q (prTo r c i xs) (.slice (some ⟨B, 0, none⟩) 0 0) [] wr) (fun _ v23 _ => r - (intOf v23).toNat)
  case atStart => exact ⟨0, rfl, by omega, by rw [PZ.out]; exact ST.out⟩
  case round =>
    clear ST
    obtain ⟨i, rfl, hi, hst⟩ := hrel
    have ST := Lib.hid hst
    clear hst
    by_cases hlt : i < r
    · go_wp2_with fail
      refine (PM.out i _ _ hlt (PN.out i) ST.out.blk ST.out.cel).mono ?_
      rintro e w2 ⟨rfl, hc2, hg2⟩
      rw [PS.out i hlt] at hc2
      have S2 := Lib.hid (ST.out.one hc2 hg2 lb g3.symm lgB g1)
      clear hc2 hg2
      go_wp2_with fail
      go_roundw
      case rel => exact ⟨i + 1, by go_num, by omega, S2.out⟩
      case measure => simp [intOf]; omega
    · obtain rfl : r = i := by omega
      clear hlt
      obtain ⟨p0, p1, p2, -, -, -⟩ := ST.out.blk.all
      generalize prTo r c r xs = y0 at ST HR EI
      go_wp2_with fail
      clear p0 p1 p2
      go_loopw [3, 4, 6, 9, 10, 11, 12, 32, 49] (fun _ _ v6 _ _ _ _ v32 _ wr => ∃ (j k : Nat) (ys : List Int) (qv : Option Addr) (qc : Nat) (pv : List Nat), v6 = .slice qv pv.length qc ∧ v32 = .int .i64 j ∧ j + k = c ∧ EInv r c (mxC c xs) ys pv j ∧ echC r c k j ys pv = RES ∧ EpSt w B b rb r c N cap g q ys (.slice qv pv.length qc) pv wr) (fun _ _ _ _ _ _ _ v32 _ _ => c - (intOf v32).toNat)
      case atStart => exact ⟨0, c, y0, _, _, [], rfl, rfl, by omega, EI.out, HR.out, ST.out⟩
      case round =>
        clear ST EI HR
        obtain ⟨j, k, ys, qv, qc, pv, rfl, rfl, hjk, he, hR, hst⟩ := hrel
        have ST := Lib.hid hst
        have EI := Lib.hid he
        have HR := Lib.hid hR
        clear hst he hR
        obtain ⟨t, ht⟩ : ∃ t, pv.length = t := ⟨_, rfl⟩
        have PT := Lib.hid ht
        have htr : t ≤ r := by rw [← ht]; exact EI.out.le
        rw [ht] at ST ⊢
        clear ht
        obtain ⟨p0, p1, p2, -, -, -⟩ := ST.out.blk.all
        by_cases hjc : j < c
        · obtain ⟨k, rfl⟩ : ∃ k', k = k' + 1 := ⟨k - 1, by omega⟩
          obtain ⟨f1, f2, f3, f4⟩ := fstR_says (c := c) (j := j) (xs := ys) (k := r - t) (p := t)
          go_wp2_with fail
          refine (iPivR r c t j N cap g q ys _ HN.out hr hc htr hjc ST.out.cel).mono ?_
          rintro e w5 ⟨rfl, hb5⟩
          have ST := Lib.hid (ST.out.below hb5)
          clear hb5 p0 p1 p2
          by_cases hf : fstR c j ys (r - t) t = r
          · have n1 : pvR r c j t ys = -1 := if_pos hf
            have EI2 : Hid (EInv r c (mxC c xs) ys pv (j + 1)) := EI.out.skip hjc fun i h1 h2 => f3 i (by rw [← PT.out]; exact h1) (by omega)
            have HE : Hid (echC r c k (j + 1) ys pv = RES) := by
              have h1 := HR.out
              by_cases htl : t < r
              · rw [echC_skip (by rw [PT.out]; exact htl) (by rw [PT.out]; exact hf)] at h1
                exact h1
              · have hp : ¬ pv.length < r := by rw [PT.out]; exact htl
                show _ = _
                rw [echC_full hp]
                rw [echC_full hp] at h1
                exact h1
            rw [n1]
            clear n1 hf f1 f2 f3 f4
            go_wp2_with fail
            go_roundw
            case rel => exact ⟨j + 1, k, ys, qv, qc, pv, by rw [PT.out], by go_num, by omega, EI2.out, HE.out, by rw [PT.out]; exact ST.out⟩
            case measure => simp [intOf]; omega
          · have n1 : pvR r c j t ys = (fstR c j ys (r - t) t : Int) := if_neg hf
            obtain ⟨p, hp⟩ : ∃ p, fstR c j ys (r - t) t = p := ⟨_, rfl⟩
            rw [hp] at n1 hf f1 f2 f3 f4
            have hpr : p < r := by omega
            have htl : t < r := by omega
            have N0 : 0 < N := by have := DL.out t htl; omega
            have FS : Hid (fstR c j ys (r - pv.length) pv.length = p) := by show _ = _; rw [PT.out]; exact hp
            have hs := EI.out.swap (p := p) (by rw [PT.out]; exact f1) hpr
            have hyz : mxC c (swC p t c ys) t j ≠ 0 := by
              rw [swC_at EI.out.len htl hjc]
              by_cases e : t = p
              · rw [if_pos e, e]; exact f4 (by omega)
              · rw [if_neg e, if_pos rfl]; exact f4 (by omega)
            rw [PT.out] at hs
            have EN : Hid (elimR r c t j r 0 (swC p t c ys) = none → RES = none) := fun h => by
              have h1 := HR.out
              rw [echC_none (p := p) (by rw [PT.out]; exact htl) FS.out (by omega) (by rw [PT.out]; exact h)] at h1
              exact h1.symm
            have EO : Hid (∀ us, elimR r c t j r 0 (swC p t c ys) = some us → echC r c k (j + 1) us (pv ++ [j]) = RES) := fun us h => by
              have h1 := HR.out
              rw [echC_on (p := p) (by rw [PT.out]; exact htl) FS.out (by omega) (by rw [PT.out]; exact h)] at h1
              exact h1
            have ZL : Hid ((swC p t c ys).length = N) := by show _ = _; rw [swC_length, ST.out.cel.len]
            obtain ⟨rfl, hI⟩ := ST.out.cel.ints N0
            have II := Lib.hid hI
            have n2 : decide ((p : Int) < 0) = false := decide_eq_false (by omega)
            rw [n1]
            clear n1 hf f1 f2 f3 f4 hI hp FS
            obtain ⟨p0, p1, p2, -, -, -⟩ := ST.out.blk.all
            go_wp2_with fail
            refine (iSwR r c p t N cap g ys _ HN.out ST.out.cel.len hr hc (by omega) hpr htl II.out).mono ?_
            rintro e w6 ⟨rfl, hi6, hg6⟩
            have ST := Lib.hid (ST.out.one (ST.out.cel.put N0 ZL.out hi6) hg6 lb g3.symm lgB g1)
            clear II hi6 hg6 p0 p1 p2
            have EZ := Lib.hid hs
            have YZ := Lib.hid hyz
            clear hs hyz EI HR
            generalize swC p t c ys = zs at EN EO ZL EZ YZ ST
            obtain ⟨E, hE⟩ : ∃ E, elimR r c t j r 0 zs = E := ⟨_, rfl⟩
            rw [hE] at EN EO
            have EE := Lib.hid hE
            clear hE
            obtain ⟨p0, p1, p2, -, -, -⟩ := ST.out.blk.all
            go_wp2_with fail
            clear p0 p1 p2
            have RW : Hid (∀ i, i < r → ∀ w', Calls Try.prog 52 #[.agg #[.int .i64 r, .int .i64 c, .slice (some ⟨g, 0, none⟩) N cap], .int .i64 i] w' (RowAt (some ⟨g, 0, none⟩) (i * c) c w')) := fun i hi w' => iRowIn r c i (i * c) N cap _ w' (.inr ⟨g, 0, rfl⟩) rfl (DL.out i hi) ST.out.cel.le (fun h => by cases h) (by omega) (by omega)
            go_loopw [3, 4, 12, 49] (fun _ _ _ v49 wu => ∃ (i l : Nat) (us : List Int), v49 = .int .i64 i ∧ i + l = r ∧ EInv r c (mxC c xs) us pv j ∧ mxC c us t j ≠ 0 ∧ (∀ p, p < i → p ≠ t → mxC c us p j = 0) ∧ elimR r c t j l i us = E ∧ EpSt w B b rb r c N cap g (some ⟨g, 0, none⟩) us (.slice qv t qc) pv wu) (fun _ _ _ v49 _ => r - (intOf v49).toNat)
            case atStart => exact ⟨0, r, zs, rfl, by omega, EZ.out, YZ.out, fun p hp => by omega, EE.out, ST.out⟩
            case round =>
              clear ST EZ YZ EE ZL
              obtain ⟨i, l, us, rfl, hil, he, hy, hz, hue, hst⟩ := hrel
              have ST := Lib.hid hst
              have EI := Lib.hid he
              have HY := Lib.hid hy
              have HZ := Lib.hid hz
              have UE := Lib.hid hue
              clear hst he hy hz hue
              by_cases hir : i < r
              · obtain ⟨l, rfl⟩ : ∃ l', l = l' + 1 := ⟨l - 1, by omega⟩
                by_cases hit : i = t
                · have n2 : ((i : Int) == (t : Int)) = true := by simp [hit]
                  have UE2 : Hid (elimR r c t j l (i + 1) us = E) := by
                    have h1 := UE.out
                    rw [elimR_skip (.inl hit)] at h1
                    exact h1
                  have HZ2 : Hid (∀ p, p < i + 1 → p ≠ t → mxC c us p j = 0) := fun p h1 h2 => HZ.out p (by omega) h2
                  clear hit
                  go_wp2_with fail
                  go_roundw
                  case rel => exact ⟨i + 1, l, us, by go_num, by omega, EI.out, HY.out, HZ2.out, UE2.out, ST.out⟩
                  case measure => simp [intOf]; omega
                · have n2 : ((i : Int) == (t : Int)) = false := by simp; omega
                  have ypos : 0 < mxC c us t j := (EI.out.norm t htl).pos hjc (fun q hq => EI.out.rest t q (by rw [PT.out]; exact Nat.le_refl _) htl hq) HY.out
                  obtain ⟨go1, go2⟩ := elimR_go (k := l) EI.out.len EI.out.num hir hit ypos (EI.out.norm i hir)
                  have ON : Hid (rowN c (rdV j (mxC c us i) (mxC c us t)) = true → EInv r c (mxC c xs) (rdL r c t j i us) pv j ∧ mxC c (rdL r c t j i us) t j ≠ 0 ∧ (∀ p, p < i + 1 → p ≠ t → mxC c (rdL r c t j i us) p j = 0) ∧ elimR r c t j l (i + 1) (rdL r c t j i us) = E) := fun h => by
                    have h1 := UE.out
                    rw [go1 h] at h1
                    obtain ⟨e1, e2, e3⟩ := EI.out.reduce (i := i) (by rw [PT.out]; exact htl) hjc hir (by rw [PT.out]; exact hit) (by rw [PT.out]; exact HY.out) (by rw [PT.out]; exact h)
                    rw [PT.out] at e1 e2 e3
                    refine ⟨e1, by rw [e2 t j htl hjc (fun e => hit e.symm)]; exact HY.out, fun p hp hpt => ?_, h1⟩
                    by_cases e : p = i
                    · rw [e]; exact e3
                    · rw [e2 p j (by omega) hjc e]; exact HZ.out p (by omega) hpt
                  have OF : Hid (rowN c (rdV j (mxC c us i) (mxC c us t)) ≠ true → RES = none) := fun h => EN.out (by
                    have h1 := UE.out
                    rw [go2 h] at h1
                    exact h1.symm)
                  have CL : Hid (∀ mi mt w', Ints w' g us → Calls Try.prog 56 #[.slice (some ⟨g, i * c, none⟩) c mi, .slice (some ⟨g, t * c, none⟩) c mt, .int .i64 j] w' (fun e w2 => ((e = .returned (.bool true) ∧ rowN c (rdV j (mxC c us i) (mxC c us t)) = true ∧ Ints w2 g (rowL r c i (rdV j (mxC c us i) (mxC c us t)) us)) ∨ (e = .returned (.bool false) ∧ rowN c (rdV j (mxC c us i) (mxC c us t)) ≠ true)) ∧ w'.grownBy w2 (some g))) := fun mi mt w' h => iClear r c i t j N g mi mt us w' HN.out ST.out.cel.len hr hc hir htl hit hjc EI.out.num HY.out h
                  have RP : Hid (prL r c i (rowL r c i (rdV j (mxC c us i) (mxC c us t)) us) = rdL r c t j i us) := rdL_prim hir
                  have RN : Hid (rowN c (rdV j (mxC c us i) (mxC c us t)) = true → nums (rowL r c i (rdV j (mxC c us i) (mxC c us t)) us) = true) := fun h => rowL_nums EI.out.len EI.out.num (rowN_iff.mp h)
                  have RL : Hid ((rowL r c i (rdV j (mxC c us i) (mxC c us t)) us).length = N) := by show _ = _; rw [rowL_length, HN.out]
                  clear go1 go2 ypos EI HY HZ UE hit
                  generalize rowL r c i (rdV j (mxC c us i) (mxC c us t)) us = rs at CL RP RN RL
                  generalize rdL r c t j i us = vs at ON RP
                  generalize rowN c (rdV j (mxC c us i) (mxC c us t)) = okr at ON OF CL RN
                  go_upto_region 21 with fail
                  refine wp_region_held_drew (S := fun w' => Blk3 w' b 26 (.int .i64 r) (.int .i64 c) (.slice (some ⟨g, 0, none⟩) N cap)) (by kernel_rfl) ST.out.drew.blk (fun hH => ?_)
                  have SD := Lib.hid ST.out.drew
                  clear ST
                  generalize wr.drew = wd at SD hH ⊢
                  refine wpAnyH_take (i := 0) (v := ?_) (by simp only [List.getElem?_toArray, List.getElem?_cons_zero]; rfl) (by kernel_rfl) (by kernel_rfl) (by kernel_rfl) (by exact fun _ _ _ h => h) (Or.inl ⟨by rfl, ?_⟩) hH ?_
                  rotate_left
                  · (intro wS hS; (try dsimp only at hS); obtain ⟨k0, k1, k2⟩ := cel3 hS; go_simp; try rfl)
                  try simp only [Act.put, List.setIfInBounds_toArray, List.set_cons_zero, List.set_cons_succ]
                  refine wpAnyH_take (i := 1) (v := ?_) (by simp only [List.getElem?_toArray, List.getElem?_cons_succ, List.getElem?_cons_zero]; rfl) (by kernel_rfl) (by kernel_rfl) (by kernel_rfl) (by exact fun _ _ _ h => h) (Or.inl ⟨by rfl, ?_⟩) hH ?_
                  rotate_left
                  · (intro wS hS; clear hS; go_simp; try rfl)
                  try simp only [Act.put, List.setIfInBounds_toArray, List.set_cons_zero, List.set_cons_succ]
                  refine wpAnyH_take (i := 3) (v := ?_) (by simp only [List.getElem?_toArray, List.getElem?_cons_succ, List.getElem?_cons_zero]; rfl) (by kernel_rfl) (by kernel_rfl) (by kernel_rfl) (by exact fun _ _ _ h => h) (Or.inl ⟨by rfl, ?_⟩) hH ?_
                  rotate_left
                  · (intro wS hS; (try dsimp only at hS); obtain ⟨k0, k1, k2⟩ := cel3 hS; go_simp; try rfl)
                  try simp only [Act.put, List.setIfInBounds_toArray, List.set_cons_zero, List.set_cons_succ]
                  refine wpAnyH_take (i := 4) (v := ?_) (by simp only [List.getElem?_toArray, List.getElem?_cons_succ, List.getElem?_cons_zero]; rfl) (by kernel_rfl) (by kernel_rfl) (by kernel_rfl) (by exact fun _ _ _ h => h) (Or.inl ⟨by rfl, ?_⟩) hH ?_
                  rotate_left
                  · (intro wS hS; clear hS; go_simp; try rfl)
                  try simp only [Act.put, List.setIfInBounds_toArray, List.set_cons_zero, List.set_cons_succ]
                  refine wpAnyH_take (i := 6) (v := ?_) (by simp only [List.getElem?_toArray, List.getElem?_cons_succ, List.getElem?_cons_zero]; rfl) (by kernel_rfl) (by kernel_rfl) (by kernel_rfl) (by exact fun _ _ _ h => h) (Or.inl ⟨by rfl, ?_⟩) hH ?_
                  rotate_left
                  · (intro wS hS; clear hS; go_simp; try rfl)
                  try simp only [Act.put, List.setIfInBounds_toArray, List.set_cons_zero, List.set_cons_succ]
                  refine wpAnyH_ready (rs := [2]) (by kernel_rfl) (by simp) ?_
                  refine AllReadyH.cons (by simp only [List.getElem?_toArray, List.getElem?_cons_succ, List.getElem?_cons_zero]; rfl) (fun K hK => ?_) AllReadyH.nil
                  go_simp
                  (with_reducible refine (RW.out i hir _).mono ?_)
                  rintro e v1 ⟨q1, m1, rfl, -, hq1, -, hb1⟩
                  obtain rfl := hq1 g 0 rfl (by omega)
                  rw [Nat.zero_add]
                  have S1 := Lib.hid (SD.out.below hb1)
                  clear hq1 hb1 SD
                  try dsimp only
                  refine hK.out _ _ ?_ (fun hH2 => ?_)
                  · exact S1.out.blk
                  clear hK K hH
                  have hH := hH2
                  clear hH2
                  try simp only [Act.put, List.setIfInBounds_toArray, List.set_cons_zero, List.set_cons_succ]
                  refine wpAnyH_ready (rs := [5]) (by kernel_rfl) (by simp) ?_
                  refine AllReadyH.cons (by simp only [List.getElem?_toArray, List.getElem?_cons_succ, List.getElem?_cons_zero]; rfl) (fun K hK => ?_) AllReadyH.nil
                  go_simp
                  (with_reducible refine (RW.out t htl _).mono ?_)
                  rintro e v2 ⟨q2, m2, rfl, -, hq2, -, hb2⟩
                  obtain rfl := hq2 g 0 rfl (by omega)
                  rw [Nat.zero_add]
                  have S2 := Lib.hid (S1.out.below hb2)
                  clear hq2 hb2 S1
                  try dsimp only
                  refine hK.out _ _ ?_ (fun hH2 => ?_)
                  · exact S2.out.blk
                  clear hK K hH
                  have hH := hH2
                  clear hH2
                  try simp only [Act.put, List.setIfInBounds_toArray, List.set_cons_zero, List.set_cons_succ]
                  refine wpAnyH_ready (rs := [7]) (by kernel_rfl) (by simp) ?_
                  refine AllReadyH.cons (by simp only [List.getElem?_toArray, List.getElem?_cons_succ, List.getElem?_cons_zero]; rfl) (fun K hK => ?_) AllReadyH.nil
                  go_simp
                  (with_reducible refine (CL.out _ _ _ (S2.out.cel.ints (by omega)).2).mono ?_)
                  rintro e v3 ⟨h3, hg3⟩
                  have K3 := Lib.hid (S2.out.blk.keepOne hg3 (by omega))
                  rcases h3 with ⟨rfl, h4, h5⟩ | ⟨rfl, h4⟩
                  · try dsimp only
                    refine hK.out _ _ ?_ (fun hH2 => ?_)
                    · exact K3.out
                    clear hK K hH
                    have hH := hH2
                    clear hH2
                    try simp only [Act.put, List.setIfInBounds_toArray, List.set_cons_zero, List.set_cons_succ]
                    refine wpAnyH_take (i := 8) (v := ?_) (by simp only [List.getElem?_toArray, List.getElem?_cons_succ, List.getElem?_cons_zero]; rfl) (by kernel_rfl) (by kernel_rfl) (by kernel_rfl) (by exact fun _ _ _ h => h) (Or.inl ⟨by rfl, ?_⟩) hH ?_
                    rotate_left
                    · (intro wS hS; clear hS; go_simp; try rfl)
                    try simp only [Act.put, List.setIfInBounds_toArray, List.set_cons_zero, List.set_cons_succ]
                    refine wpAnyH_done (by kernel_rfl) ?_ _
                    obtain ⟨e1, e2, e3, e4⟩ := ON.out h4
                    have E1 := Lib.hid e1
                    have E2 := Lib.hid e2
                    have E3 := Lib.hid e3
                    have E4 := Lib.hid e4
                    have NN := Lib.hid (RN.out h4)
                    have S3 := Lib.hid (S2.out.one (S2.out.cel.put (by omega) RL.out h5) hg3 lb g3.symm lgB g1)
                    clear e1 e2 e3 e4 h4 h5 hg3 K3 S2 hH ON OF CL RN
                    go_wp2_with fail
                    refine (PM.out i _ _ hir NN.out S3.out.blk S3.out.cel).mono ?_
                    rintro e v4 ⟨rfl, hc4, hg4⟩
                    rw [RP.out] at hc4
                    have S4 := Lib.hid (S3.out.one hc4 hg4 lb g3.symm lgB g1)
                    clear hc4 hg4 S3
                    go_wp2_with fail
                    go_roundw
                    case rel => exact ⟨i + 1, l, vs, by go_num, by omega, E1.out, E2.out, E3.out, E4.out, S4.out⟩
                    case measure => simp [intOf]; omega
                  · try dsimp only
                    refine hK.out _ _ ?_ (fun hH2 => ?_)
                    · exact K3.out
                    clear hK K hH
                    have hH := hH2
                    clear hH2
                    try simp only [Act.put, List.setIfInBounds_toArray, List.set_cons_zero, List.set_cons_succ]
                    refine wpAnyH_take (i := 8) (v := ?_) (by simp only [List.getElem?_toArray, List.getElem?_cons_succ, List.getElem?_cons_zero]; rfl) (by kernel_rfl) (by kernel_rfl) (by kernel_rfl) (by exact fun _ _ _ h => h) (Or.inl ⟨by rfl, ?_⟩) hH ?_
                    rotate_left
                    · (intro wS hS; clear hS; go_simp; try rfl)
                    try simp only [Act.put, List.setIfInBounds_toArray, List.set_cons_zero, List.set_cons_succ]
                    refine wpAnyH_done (by kernel_rfl) ?_ _
                    have RZ := Lib.hid (OF.out h4)
                    have RT3 := Lib.hid (S2.out.ret.keepOne hg3 g3.symm)
                    have BL3 := Lib.hid (S2.out.bel.trans (below_of_one hg3 g1 S2.out.bel.size))
                    clear h4 hg3 K3 S2 hH ON OF CL RN
                    obtain ⟨r0, r1, r2, f0, f1, f2⟩ := RT3.out.all
                    go_wp2_with fail
                    obtain ⟨E0, E1, E2, -, -, -⟩ := (((RT3.out.set0 (.int .i64 0)).set1 (.int .i64 0)).set2 (.slice none 0 0)).all
                    exact bodyPost_ret (v := .tuple #[.agg #[.int .i64 0, .int .i64 0, .slice none 0 0], .slice none 0 0, .bool false]) (by simp [results, Try.results15, go_sem, E0, E1, E2]) rfl (by rw [RZ.out]; exact ep_bad BL3.out lrb _ _ _)
              · obtain rfl : l = 0 := by omega
                have UF : Hid (echC r c k (j + 1) us (pv ++ [j]) = RES) := EO.out us UE.out.symm
                have EF : Hid (EInv r c (mxC c xs) us (pv ++ [j]) (j + 1)) := EI.out.pivot (by rw [PT.out]; exact htl) hjc (by rw [PT.out]; exact HY.out) (fun p hp hne => HZ.out p (by omega) (by rw [← PT.out]; exact hne))
                clear EI HY HZ UE EO EN
                obtain ⟨fi, hfi, hz0, hz1, hz2⟩ := facts_int
                have HO : Hid ((wr.alloc (.cells #[.int .i64 j] 3)).ownsRow B 3 1 (.slice qv t qc) t ((pvI pv).map (Value.int .i64))) := by
                  have h1 := ST.out.own.keep ((Below.refl _ _).alloc (Nat.le_refl _) (.cells #[.int .i64 j] 3))
                  unfold OwnQ at h1
                  rw [pvI_length, PT.out] at h1
                  exact h1
                have le := ST.out.le
                go_wp2_with (at_builtin; refine wpList_append_own_at _ rfl _ _ 22 rfl B 3 fi (.int .i64 0) 1 8 underlying_ints hfi hz0 hz1 hz2 rfl (by decide) _ _ _ rfl HO.out ⟨wr.heap.size, 0, none⟩ 1 1 [.int .i64 j] ?hx ?hl ?hnews ?h1 ?h63 ?hbytes ?hbase ?hnext)
                case hx => rfl
                case hl => rfl
                case hnews => exact cell_one_new _ _ _
                case h1 => intro v hv; simp at hv; subst hv; rfl
                case h63 => unfold maxLen; omega
                case hbytes => omega
                case hbase => simp; omega
                case hnext =>
                  rintro v' w7 ho hg7 - -
                  have O7 : OwnQ B w7 v' (pvI (pv ++ [j])) := by
                    unfold OwnQ pvI
                    rw [List.map_append, List.length_append, List.map_append, List.length_map, PT.out]
                    exact ho
                  have hs := ST.out.app hg7 O7 lgB lwB
                  obtain ⟨q', qc', rfl⟩ := O7.form
                  rw [pvI_length] at hs ⊢
                  have S7 := Lib.hid hs
                  clear hs O7 ho hg7
                  go_wp2_with fail
                  go_roundw
                  case rel => exact ⟨j + 1, k, us, q', qc', pv ++ [j], rfl, by go_num, by omega, EF.out, UF.out, S7.out⟩
                  case measure => simp [intOf]; omega
        · obtain rfl : k = 0 := by omega
          have RF : Hid (some (ys, pv) = RES) := HR.out
          have hpl : pv.length ≤ 24 := by rw [PT.out]; omega
          obtain ⟨r0, r1, r2, h0, h1, h2⟩ := ST.out.ret.all
          go_wp2_with fail
          obtain ⟨E0, E1, E2, -, -, -⟩ := (((ST.out.ret.set0 (.int .i64 r)).set1 (.int .i64 c)).set2 (.slice q N cap)).all
          exact bodyPost_ret (v := .tuple #[.agg #[.int .i64 r, .int .i64 c, .slice q N cap], .slice qv t qc, .bool true]) (by simp [results, Try.results15, go_sem, E0, E1, E2]) rfl (by rw [← RF.out]; exact ST.out.end_ (by omega) hpl lgB g1 lrb g3.symm _ _ _)
end Go.Proofs.Ytbdofgkcedpamaa
end

section
/-
  Chapter 7, in the program: EchelonOf and RankOf of any matrix.
-/
namespace Go.Proofs.Ytbdofgkcedpamaa
set_option maxRecDepth 100000
open Go.RowKit

theorem echR_zs (r c : Int) (xs : List Int) : (echR r c xs).zs.length ≤ 600 := by
  rcases Bool.eq_false_or_eq_true (echR r c xs).ok with h | h
  · obtain ⟨-, R, C, ys, pv, -, -, h1, h2, -, -, -, e, h4, -⟩ := echR_ok h
    rw [e]
    show ys.length ≤ 600
    have : R * C ≤ 24 * 24 := Nat.mul_le_mul h1 h2
    omega
  · unfold echR at h ⊢
    split
    · rename_i hm
      rw [if_pos hm] at h
      cases he : echM r.toNat c.toNat xs with
      | none => exact Nat.zero_le _
      | some o =>
        rw [he] at h
        exact absurd h (by simp [ER.of])
    · exact Nat.zero_le _
theorem iEch_no (r c : Int) (a : Option Addr) (m : Nat) (xs : List Int) (w : World) (h : Rd w a xs) (hn : xs.length ≤ 16777216) (hm : isMat r c xs = false) :
    Calls Try.prog 15 #[.agg #[.int .i64 r, .int .i64 c, .slice a xs.length m]] w (EchG w ER.no) := by
  have IM : Hid (∀ w', Below w.heap.size w w' → Calls Try.prog 49 #[.agg #[.int .i64 r, .int .i64 c, .slice a xs.length m]] w' (Gives (.bool false) w')) := fun w' hb => by
    have := iIsMat r c a m xs w' (h.below hb) hn
    rw [hm] at this
    exact this
  clear h hn hm
  generalize xs.length = L at IM ⊢
  go_enter Try.func15, Try.ntmps15
  go_upto_region 1 with fail
  have K0 : Hid (Blk3 ((w.alloc (.cells #[.int .i64 r, .int .i64 c, .slice a L m] 26)).alloc (.cells #[.int .i64 0, .int .i64 0, .slice none 0 0] 26)) w.heap.size 26 (.int .i64 r) (.int .i64 c) (.slice a L m)) := (Blk3.at_ _ _ _ _ rfl).old _
  have R0 : Hid (Blk3 ((w.alloc (.cells #[.int .i64 r, .int .i64 c, .slice a L m] 26)).alloc (.cells #[.int .i64 0, .int .i64 0, .slice none 0 0] 26)) (w.heap.size + 1) 26 (.int .i64 0) (.int .i64 0) (.slice none 0 0)) := Blk3.at_ _ _ _ _ (by simp)
  have B0 : Hid (Below w.heap.size w ((w.alloc (.cells #[.int .i64 r, .int .i64 c, .slice a L m] 26)).alloc (.cells #[.int .i64 0, .int .i64 0, .slice none 0 0] 26))) := ((Below.refl _ _).alloc (Nat.le_refl _) _).alloc (by simp) _
  have S0 : Hid (((w.alloc (.cells #[.int .i64 r, .int .i64 c, .slice a L m] 26)).alloc (.cells #[.int .i64 0, .int .i64 0, .slice none 0 0] 26)).heap.size = w.heap.size + 2) := by show _ = _; simp
  generalize (w.alloc (.cells #[.int .i64 r, .int .i64 c, .slice a L m] 26)).alloc (.cells #[.int .i64 0, .int .i64 0, .slice none 0 0] 26) = W0 at K0 R0 B0 S0 ⊢
  obtain ⟨p0, p1, p2, -, -, -⟩ := K0.out.all
  go_wp2_with fail
  refine (IM.out _ B0.out).mono ?_
  rintro e w1 ⟨rfl, hb⟩
  have s0 := S0.out
  have sb := hb.size
  have R1 := Lib.hid (R0.out.step hb)
  have B1 := Lib.hid (B0.out.trans (hb.mono (by omega)))
  clear hb K0 R0 B0 S0 p0 p1 p2
  obtain ⟨r0, r1, r2, f0, f1, f2⟩ := R1.out.all
  go_wp2_with fail
  obtain ⟨E0, E1, E2, -, -, -⟩ := (((R1.out.set0 (.int .i64 0)).set1 (.int .i64 0)).set2 (.slice none 0 0)).all
  refine bodyPost_ret (v := .tuple #[.agg #[.int .i64 0, .int .i64 0, .slice none 0 0], .slice none 0 0, .bool false]) (by simp [results, Try.results15, go_sem, E0, E1, E2]) rfl ?_
  exact ⟨_, _, rfl, .inl ⟨rfl, rfl⟩, .inl ⟨rfl, rfl⟩, fun k hk => by simp [Value.ownBlock] at hk, ((B1.out.setCell (by simp) _).setCell (by simp) _).setCell (by simp) _⟩
theorem iEchelonOf (r c : Int) (a : Option Addr) (m : Nat) (xs : List Int) (w : World) (h : Rd w a xs) (hn : xs.length ≤ 16777216) :
    Calls Try.prog 15 #[.agg #[.int .i64 r, .int .i64 c, .slice a xs.length m]] w (EchG w (echR r c xs)) := by
  rcases Bool.eq_false_or_eq_true (isMat r c xs) with hm | hm
  · obtain ⟨⟨r0, r1⟩, ⟨c0, c1⟩, hl, nx⟩ := isMat_says hm
    unfold echR
    rw [if_pos hm]
    obtain ⟨R, rfl⟩ := Int.eq_ofNat_of_zero_le r0
    obtain ⟨C, rfl⟩ := Int.eq_ofNat_of_zero_le c0
    exact (iEch R C xs.length a m xs w h rfl (by rw [← Int.natCast_mul] at hl; omega) (by omega) (by omega) nx hm).mono fun _ _ h => h.g
  · unfold echR
    rw [if_neg (by rw [hm]; decide)]
    exact iEch_no r c a m xs w h hn hm
theorem iRankOf (r c : Int) (a : Option Addr) (m : Nat) (xs : List Int) (w : World) (h : Rd w a xs) (hn : xs.length ≤ 16777216) :
    Calls Try.prog 23 #[.agg #[.int .i64 r, .int .i64 c, .slice a xs.length m]] w (Gives (.tuple #[.int .i64 ((echR r c xs).pv.length : Int), .bool (echR r c xs).ok]) w) := by
  have EC : Hid (∀ w', Below w.heap.size w w' → Calls Try.prog 15 #[.agg #[.int .i64 r, .int .i64 c, .slice a xs.length m]] w' (EchG w' (echR r c xs))) := fun w' hb => iEchelonOf r c a m xs w' (h.below hb) hn
  generalize echR r c xs = RES at EC ⊢
  clear h hn
  generalize xs.length = L at EC ⊢
  have B0 : Hid (Below w.heap.size w (w.alloc (.cells #[.int .i64 r, .int .i64 c, .slice a L m] 26))) := (Below.refl _ _).alloc (Nat.le_refl _) _
  go_enter Try.func23, Try.ntmps23
  go_wp2_with fail
  refine (EC.out _ B0.out).mono ?_
  rintro e w2 ⟨va, vb, rfl, oa, ob, hd, hb⟩
  obtain ⟨qa, ca, hva, -, -⟩ := oa.form
  obtain ⟨qb, cb, hvb, -, -⟩ := ob.form
  subst hva hvb
  have sb := hb.size
  simp at sb
  have B1 := Lib.hid (B0.out.trans (hb.mono (by simp)))
  clear hb oa ob hd
  have B2 := Lib.hid (B1.out.alloc B1.out.size (.cells #[.int .i64 RES.r, .int .i64 RES.c, .slice qa RES.zs.length ca] 26))
  go_wp2_with fail
  exact bodyPost_ret (v := .tuple #[.int .i64 (RES.pv.length : Int), .bool RES.ok]) (by simp [results, Try.results23, go_sem]) rfl ⟨rfl, B2.out⟩
end Go.Proofs.Ytbdofgkcedpamaa
end

section
/-
  Contracts of Go's library at this translation, each one application of a theorem of the guide's library: slices_Equal_int, slices_Equal_int_empty, slices_Equal_int_lens.
-/
namespace Go.Proofs
open Go.Shelf
def Try.lays111_ren : Go.Shelf.Ren := ⟨fun | 111 => 60 | n => n, fun | 28 => 22 | 3 => 3 | 4 => 4 | 0 => 0 | n => n, fun | n => n⟩
theorem Try.lays111 : Go.Proofs.Lays.n111 Try.prog Try.lays111_ren := {
  mixed := by kernel_rfl
  f111 := Try.func60.trans (congrArg some (by kernel_rfl))
  t0 := Try.underlying0
  a0 := Try.isAgg0
  z0 := Try.sizeOf0
  v0 := Try.zeroValue0
  t3 := Try.underlying3
  a3 := Try.isAgg3
  z3 := Try.sizeOf3
  v3 := Try.zeroValue3
  t4 := Try.underlying4
  a4 := Try.isAgg4
  z4 := Try.sizeOf4
  v4 := Try.zeroValue4
  t28 := Try.underlying22
  a28 := Try.isAgg22
  z28 := Try.sizeOf22
  v28 := Try.zeroValue22 }
open Go.RowKit Go.Lib in
theorem Try.slices_Equal_int (b1 o1 n c b2 o2 m d : Nat) (xs ys : List Int) (w : World) (hx : n ≤ xs.length) (hy : m ≤ ys.length) (hbig : n ≤ 9223372036854775807) (hbig2 : m ≤ 9223372036854775807) (hc1 : ∀ j, j < xs.length → w.cell? ⟨b1, o1 + j, none⟩ = some (.int .i64 (xs.getD j 0))) (hc2 : ∀ j, j < ys.length → w.cell? ⟨b2, o2 + j, none⟩ = some (.int .i64 (ys.getD j 0))) :
    Calls Try.prog 60 #[.slice (some ⟨b1, o1, none⟩) n c, .slice (some ⟨b2, o2, none⟩) m d] w fun e w' => e = .returned (.bool (xs.take n == ys.take m)) ∧ ∃ q, w' = w.drewN q := Any.slices_Equal_int Try.lays111 b1 o1 n c b2 o2 m d xs ys w hx hy hbig hbig2 hc1 hc2
open Go.RowKit Go.Lib in
theorem Try.slices_Equal_int_empty (a1 a2 : Option Addr) (c m d : Nat) (w : World) (hbig2 : m ≤ 9223372036854775807) :
    Calls Try.prog 60 #[.slice a1 0 c, .slice a2 m d] w fun e w' => e = .returned (.bool (decide (m = 0))) ∧ w' = w := Any.slices_Equal_int_empty Try.lays111 a1 a2 c m d w hbig2
open Go.RowKit Go.Lib in
theorem Try.slices_Equal_int_lens (a1 a2 : Option Addr) (n c m d : Nat) (w : World) (hnm : n ≠ m) :
    Calls Try.prog 60 #[.slice a1 n c, .slice a2 m d] w fun e w' => e = .returned (.bool false) ∧ w' = w := Any.slices_Equal_int_lens Try.lays111 a1 a2 n c m d w hnm
end Go.Proofs
end

section
/-
  Chapter 3, in the program: slices.Equal over slices of ints; SameMatrix.
-/
namespace Go.Proofs.Ytbdofgkcedpamaa
open Go.RowKit

theorem iEqual (a b : Option Addr) (m n : Nat) (xs ys : List Int) (w : World) (h : Rd w a xs) (h' : Rd w b ys) (hn : xs.length ≤ 16777216) (hn' : ys.length ≤ 16777216) :
    Calls Try.prog 60 #[.slice a xs.length m, .slice b ys.length n] w fun e w' => e = .returned (.bool (decide (xs = ys))) ∧ ∃ q, w' = w.drewN q := by
  by_cases el : xs.length = ys.length
  · rcases Nat.eq_zero_or_pos xs.length with e | hz
    · obtain rfl : xs = [] := List.eq_nil_of_length_eq_zero e
      obtain rfl : ys = [] := List.eq_nil_of_length_eq_zero (by rw [← el]; rfl)
      exact (Try.slices_Equal_int_empty a b m 0 n w (by omega)).mono fun e w' ⟨h1, h2⟩ => ⟨by rw [h1]; simp, 0, by rw [h2]; rfl⟩
    · obtain ⟨b1, o1, rfl⟩ := h.addr hz
      obtain ⟨b2, o2, rfl⟩ := h'.addr (by omega)
      refine (Try.slices_Equal_int b1 o1 xs.length m b2 o2 ys.length n xs ys w (Nat.le_refl _) (Nat.le_refl _) (by omega) (by omega) h.cells h'.cells).mono fun e w' ⟨h1, h2⟩ => ⟨?_, h2⟩
      rw [h1, List.take_length, List.take_length]
      congr 2
      by_cases e : xs = ys <;> simp [e]
  · refine (Try.slices_Equal_int_lens a b xs.length m ys.length n w el).mono fun e w' ⟨h1, h2⟩ => ⟨?_, 0, by rw [h2]; rfl⟩
    rw [h1, decide_eq_false (fun e => el (by rw [e]))]

set_option maxHeartbeats 400000 in
theorem iSame (r c r' c' : Int) (a b : Option Addr) (m n : Nat) (xs ys : List Int) (w : World) (h : Rd w a xs) (h' : Rd w b ys) (hn : xs.length ≤ 16777216) (hn' : ys.length ≤ 16777216) :
    Calls Try.prog 33 #[.agg #[.int .i64 r, .int .i64 c, .slice a xs.length m], .agg #[.int .i64 r', .int .i64 c', .slice b ys.length n]] w (Gives (.bool (sameM r c xs r' c' ys)) w) := by
  have B0 : ∀ o1 o2, Below w.heap.size w ((w.alloc o1).alloc o2) := fun o1 o2 => ((Below.refl _ _).alloc (Nat.le_refl _) _).alloc (by simp) _
  have BH := Lib.hid B0
  clear B0
  have H := Lib.hid h
  have H' := Lib.hid h'
  clear h h'
  by_cases e1 : r = r'
  · by_cases e2 : c = c'
    · subst e1 e2
      have E : Hid (sameM r c xs r c ys = decide (xs = ys)) := by show sameM r c xs r c ys = _; unfold sameM; simp
      have n1 : (r == r) = true := by simp
      have n2 : (c == c) = true := by simp
      go_enter Try.func33, Try.ntmps33
      go_wp2_with fail
      refine (iEqual a b m n xs ys _ (H.out.below (BH.out _ _)) (H'.out.below (BH.out _ _)) hn hn').mono ?_
      rintro e w1 ⟨rfl, q, rfl⟩
      go_wp2_with fail
      go_ret
      exact ⟨by rw [E.out]; rfl, below_drewN (BH.out _ _) _⟩
    · have E : Hid (sameM r c xs r' c' ys = false) := decide_eq_false (fun t => e2 t.2.1)
      subst e1
      have n1 : (c == c') = false := by simpa using e2
      have n2 : (c != c') = true := by simpa using e2
      clear e2
      go_enter Try.func33, Try.ntmps33
      go_wp2_with fail
      go_ret
      exact ⟨by rw [E.out]; rfl, BH.out _ _⟩
  · have E : Hid (sameM r c xs r' c' ys = false) := decide_eq_false (fun t => e1 t.1)
    have n1 : (r == r') = false := by simpa using e1
    have n2 : (r != r') = true := by simpa using e1
    clear e1
    go_enter Try.func33, Try.ntmps33
    go_wp2_with fail
    go_ret
    exact ⟨by rw [E.out]; rfl, BH.out _ _⟩
end Go.Proofs.Ytbdofgkcedpamaa
end
