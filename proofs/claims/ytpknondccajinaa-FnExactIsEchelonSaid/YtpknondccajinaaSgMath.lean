/-
  Plain mathematics of chapter 7: what a row is divided by in the program. Nothing of a program is used.
-/
import Derived.Test.YtpknondccajinaaEchB
namespace Go.Proofs.Ytpknondccajinaa

/-- What a row is divided by. -/
def sgD (c : Nat) (v : Nat → Int) : Int := if gcdN c v = 0 then 1 else sgnN c v * gcdN c v
theorem sgD_div {c : Nat} {v : Nat → Int} (j : Nat) : (v j).tdiv (sgD c v) = prV c v j := by
  unfold sgD prV
  by_cases h : gcdN c v = 0
  · rw [if_pos h, if_pos h, Int.tdiv_one]
  · rw [if_neg h, if_neg h]
    rcases sgnN_or c v with hs | hs | hs
    · exact absurd hs (sgnN_ne h)
    · rw [hs, Int.one_mul, Int.one_mul]
    · rw [hs, Int.neg_mul, Int.neg_mul, Int.one_mul, Int.one_mul, Int.tdiv_neg, Int.neg_tdiv]
theorem sgD_ne (c : Nat) (v : Nat → Int) : sgD c v ≠ 0 := by
  unfold sgD
  by_cases h : gcdN c v = 0
  · rw [if_pos h]; decide
  · rw [if_neg h]
    exact Int.mul_ne_zero (sgnN_ne h) h
theorem sgD_num {c : Nat} {v : Nat → Int} (h : ∀ j, j < c → NumP (v j)) : NumP (sgD c v) := by
  have hg := gcdN_num h
  unfold sgD
  split
  · exact ⟨by decide, by decide⟩
  · unfold NumP at hg ⊢
    rcases sgnN_or c v with hs | hs | hs <;> rw [hs] <;> omega
theorem lead_zero {c : Nat} {v : Nat → Int} : leadC c v = c ↔ gcdN c v = 0 := by
  obtain ⟨h1, h2, h3⟩ := leadC_says c v
  constructor
  · intro h
    exact gcdN_all fun j hj => h2 j (by omega)
  · intro h
    rcases Nat.lt_or_ge (leadC c v) c with h4 | h4
    · exact absurd (gcdN_none h _ h4) (h3 h4)
    · omega
theorem sgD_end {c : Nat} {v : Nat → Int} (h : leadC c v = c) : sgD c v = 1 := by
  unfold sgD
  rw [if_pos (lead_zero.mp h)]
theorem sgD_lead {c : Nat} {v : Nat → Int} (h : leadC c v < c) : sgD c v = if v (leadC c v) < 0 then -gcdN c v else gcdN c v := by
  obtain ⟨h1, h2, h3⟩ := leadC_says c v
  unfold sgD
  rw [if_neg (fun e => by have := lead_zero.mpr e; omega), sgnN_first h h2 (h3 h)]
  split
  · rw [Int.neg_mul, Int.one_mul]
  · rw [Int.one_mul]
/-- The divisor is 1 for a row as an echelon form has it. -/
theorem sgD_one {c : Nat} {v : Nat → Int} : sgD c v = 1 ↔ ¬ (leadC c v < c ∧ (v (leadC c v) < 0 ∨ gcdN c v ≠ 1)) := by
  have g0 := gcdN_nonneg c v
  obtain ⟨h1, h2, h3⟩ := leadC_says c v
  rcases Nat.lt_or_ge (leadC c v) c with h | h
  · rw [sgD_lead h]
    by_cases hn : v (leadC c v) < 0
    · rw [if_pos hn]
      constructor
      · intro e; omega
      · intro e; exact absurd ⟨h, .inl hn⟩ e
    · rw [if_neg hn]
      constructor
      · rintro e ⟨-, h4 | h4⟩
        · exact hn h4
        · exact h4 e
      · intro e
        exact Classical.byContradiction fun h4 => e ⟨h, .inr h4⟩
  · rw [sgD_end (by omega)]
    exact ⟨fun _ h4 => by omega, fun _ => rfl⟩
/-- A row that is primitive has no other divisor. -/
theorem prL_norm {r c i : Nat} {xs : List Int} (hx : xs.length = r * c) (h : i < r → Norm c (mxC c xs i)) : prL r c i xs = xs := by
  rw [prL_row]
  exact rowL_self hx fun hi q hq => prV_id (h hi) hq
/-- A row with 0 in the pivot's column stays as it is. -/
theorem rdV_skip {u v : Nat → Int} {j : Nat} (hu : u j = 0) (hv : 0 < v j) (k : Nat) : rdV j u v k = u k := by
  unfold rdV
  rw [hu, Int.gcd_zero_left, Int.natAbs_of_nonneg (by omega), Int.tdiv_self (by omega), Int.zero_tdiv]
  omega
theorem rdL_skip {r c t j i : Nat} {xs : List Int} (hx : xs.length = r * c) (hu : mxC c xs i j = 0) (hv : 0 < mxC c xs t j) (hn : i < r → Norm c (mxC c xs i)) : rdL r c t j i xs = xs := by
  rw [rdL_row]
  refine rowL_self hx fun hi q hq => ?_
  have e : prV c (rdV j (mxC c xs i) (mxC c xs t)) q = prV c (mxC c xs i) q := prV_congr (fun k _ => rdV_skip hu hv k) q hq
  rw [e, prV_id (hn hi) hq]
theorem rowN_skip {c t j i r : Nat} {xs : List Int} (hx : xs.length = r * c) (nx : nums xs = true) (hi : i < r) (hu : mxC c xs i j = 0) (hv : 0 < mxC c xs t j) : rowN c (rdV j (mxC c xs i) (mxC c xs t)) = true :=
  rowN_iff.mpr fun q hq => by rw [rdV_skip hu hv]; exact mx_nums hx nx hi hq
/-- One row of the elimination as the program does it: rows with 0 are not left out. -/
theorem elimR_go {r c t j k i : Nat} {xs : List Int} (hx : xs.length = r * c) (nx : nums xs = true) (hi : i < r) (hit : i ≠ t) (hv : 0 < mxC c xs t j) (hn : Norm c (mxC c xs i)) :
    (rowN c (rdV j (mxC c xs i) (mxC c xs t)) = true → elimR r c t j (k + 1) i xs = elimR r c t j k (i + 1) (rdL r c t j i xs)) ∧ (rowN c (rdV j (mxC c xs i) (mxC c xs t)) ≠ true → elimR r c t j (k + 1) i xs = none) := by
  by_cases h0 : mxC c xs i j = 0
  · refine ⟨fun _ => ?_, fun h => absurd (rowN_skip hx nx hi h0 hv) h⟩
    rw [elimR_skip (.inr h0), rdL_skip hx h0 hv fun _ => hn]
  · have h1 : ¬ (i = t ∨ mxC c xs i j = 0) := fun e => e.elim hit h0
    exact ⟨fun h => elimR_on h1 h, fun h => elimR_bad h1 h⟩
/-- Where all rows have their pivots, nothing is left to do. -/
theorem echC_full {r c : Nat} {xs : List Int} {pv : List Nat} (h : ¬ pv.length < r) (k j : Nat) : echC r c k j xs pv = some (xs, pv) := by
  cases k with
  | zero => rfl
  | succ k => exact if_neg h
end Go.Proofs.Ytpknondccajinaa
