/-
  Plain mathematics of chapter 8: primes up to the limit, inverses of residues. Nothing of a program is used.
-/
import Derived.Test.YtkphlfcbinjknaaModF
import Derived.Test.YtkphlfcbinjknaaMatMath
namespace Go.Proofs.Ytkphlfcbinjknaa

/-- The check of IsPrime. -/
def prmB (p : Int) : Bool := decide (2 ≤ p ∧ p ≤ 10000) && (List.range 101).all fun d => decide (¬ (2 ≤ d ∧ ((d : Nat) : Int) * (d : Int) ≤ p ∧ (d : Int) ∣ p))
theorem prmB_says {p : Int} (h : prmB p = true) : Prm p ∧ p ≤ 10000 := by
  unfold prmB at h
  rw [Bool.and_eq_true, decide_eq_true_eq, List.all_eq_true] at h
  obtain ⟨⟨h1, h2⟩, h3⟩ := h
  refine ⟨⟨h1, fun d hd hdd hdv => ?_⟩, h2⟩
  have hd1 : d ≤ 100 := by
    rcases Int.lt_or_le 100 d with h4 | h4
    · have : (101 : Int) * 101 ≤ d * d := Int.mul_le_mul (by omega) (by omega) (by omega) (by omega)
      omega
    · exact h4
  obtain ⟨e, rfl⟩ := Int.eq_ofNat_of_zero_le (show 0 ≤ d by omega)
  have h4 := of_decide_eq_true (h3 e (List.mem_range.mpr (by omega)))
  exact h4 ⟨by omega, hdd, hdv⟩
theorem prmB_true {p : Int} (h1 : 2 ≤ p ∧ p ≤ 10000) (h2 : ∀ d : Nat, 2 ≤ d → (d : Int) * (d : Int) ≤ p → ¬ (d : Int) ∣ p) : prmB p = true := by
  unfold prmB
  rw [Bool.and_eq_true, decide_eq_true_eq, List.all_eq_true]
  exact ⟨h1, fun d _ => decide_eq_true fun h => h2 d h.1 h.2.1 h.2.2⟩
theorem prmB_out {p : Int} (h : p < 2 ∨ 10000 < p) : prmB p = false := by
  unfold prmB
  rw [decide_eq_false (by omega), Bool.false_and]
theorem prmB_div {p : Int} {d : Nat} (hd : 2 ≤ d) (hdd : (d : Int) * (d : Int) ≤ p) (hdv : (d : Int) ∣ p) : prmB p = false := by
  cases h : prmB p with
  | false => rfl
  | true => exact absurd hdv ((prmB_says h).1.2 d (by omega) hdd)
/-- Every number and its divisor are combinations. -/
theorem bez : ∀ b a : Nat, ∃ x y : Int, (a : Int) * x + (b : Int) * y = (Nat.gcd a b : Nat) := by
  intro b
  induction b using Nat.strongRecOn with
  | ind b ih =>
    intro a
    rcases Nat.eq_zero_or_pos b with h | h
    · subst h
      exact ⟨1, 0, by simp⟩
    · obtain ⟨x, y, e⟩ := ih (a % b) (Nat.mod_lt a h) b
      refine ⟨y, x - ((a / b : Nat) : Int) * y, ?_⟩
      have e1 : Nat.gcd a b = Nat.gcd b (a % b) := by rw [Nat.gcd_comm a b, Nat.gcd_rec b a, Nat.gcd_comm]
      have e2 : (a : Int) = (b : Int) * ((a / b : Nat) : Int) + ((a % b : Nat) : Int) := by
        rw [← Int.natCast_mul, ← Int.natCast_add, Nat.div_add_mod]
      rw [e1, ← e]
      generalize ((a / b : Nat) : Int) = u at e2 ⊢
      generalize ((a % b : Nat) : Int) = v at e2 ⊢
      rw [e2]
      grind
theorem Prm.hasInv {p : Int} (h : Prm p) : HasInv p := fun a ha => by
  have hp0 : 0 < p := by have := h.1; omega
  obtain ⟨n, hn⟩ := Int.eq_ofNat_of_zero_le (Int.emod_nonneg a (show p ≠ 0 by omega))
  obtain ⟨q, hq⟩ := Int.eq_ofNat_of_zero_le (show 0 ≤ p by omega)
  obtain ⟨x, y, e⟩ := bez q n
  have hna : ¬ p ∣ (n : Int) := fun hd => ha (by
    have h1 : Cg p a (a % p) := (Cg.emod p a).symm
    rw [hn] at h1
    exact Cg.zero.mp (h1.trans (Cg.zero.mpr hd)))
  have hg := h.gcd hna
  have hg2 : (Nat.gcd n q : Nat) = 1 := by
    have : ((n : Int).gcd p) = Nat.gcd n q := by rw [hq]; rfl
    omega
  rw [hg2] at e
  refine ⟨x % p, Int.emod_nonneg _ (by omega), Int.emod_lt_of_pos _ hp0, ?_⟩
  have h1 : Cg p (a * (x % p)) ((n : Int) * x) := by
    rw [← hn]
    exact (Cg.emod p a).symm.mul (Cg.emod p x)
  refine Cg.trans h1 ⟨-y, ?_⟩
  rw [hq, Int.mul_neg]
  have e' : (n : Int) * x + (q : Int) * y = 1 := e
  omega
/-- What InverseModulo gives. -/
def ivM (p a : Int) : Int × Bool := if (prmB p && decide (NumP a) && decide (a % p ≠ 0)) = true then (invF p (a % p), true) else (0, false)
theorem emod_nd {p a : Int} (hp : 0 < p) (h : a % p ≠ 0) : ¬ p ∣ a % p := can_nd (res_can hp a) h
theorem invF_ext {p a g x y : Int} (hp : Prm p) (h : a * x + p * y = g) (hg : g = 1) : invF p a = x % p := by
  have hp0 : 0 < p := by have := hp.1; omega
  refine invF_of hp (Int.emod_nonneg _ (by omega)) (Int.emod_lt_of_pos _ hp0) ?_
  refine ((Cg.refl p a).mul (Cg.emod p x)).trans ⟨-y, ?_⟩
  rw [Int.mul_neg]
  omega
/-- The residues of all cells. -/
def resL (p : Int) (xs : List Int) : List Int := xs.map fun z => z % p
theorem resL_at {p : Int} {xs : List Int} (k : Nat) : (resL p xs).getD k 0 = xs.getD k 0 % p := by
  unfold resL
  rcases Nat.lt_or_ge k xs.length with h | h
  · simp [List.getD, h]
  · simp [List.getD, List.getElem?_eq_none h]
/-- What ReduceMod gives. -/
def redM (r c p : Int) (xs : List Int) : MR := if (isMat r c xs && prmB p) = true then ⟨true, r, c, resL p xs⟩ else MR.no
/-- Cells that are residues. -/
def CanL (p : Int) (xs : List Int) : Prop := ∀ k, k < xs.length → 0 ≤ xs.getD k 0 ∧ xs.getD k 0 < p
theorem resL_can {p : Int} (hp : 0 < p) (xs : List Int) : CanL p (resL p xs) := fun k _ => by rw [resL_at]; exact res_can hp _
theorem CanL.mx {p : Int} {r c : Nat} {xs : List Int} (h : CanL p xs) (hx : xs.length = r * c) {i j : Nat} (hi : i < r) (hj : j < c) : 0 ≤ mxC c xs i j ∧ mxC c xs i j < p := h _ (by rw [hx]; exact idx_lt hi hj)
theorem CanL.of {p : Int} {r c : Nat} {xs : List Int} (hx : xs.length = r * c) (h : ∀ i j, i < r → j < c → 0 ≤ mxC c xs i j ∧ mxC c xs i j < p) : CanL p xs := fun k hk => by
  rw [hx] at hk
  have hc : 0 < c := by
    rcases Nat.eq_zero_or_pos c with e | e
    · subst e; omega
    · exact e
  have e : k = k / c * c + k % c := by rw [Nat.mul_comm]; exact (Nat.div_add_mod k c).symm
  have := h (k / c) (k % c) (Nat.div_lt_of_lt_mul (by rw [Nat.mul_comm]; exact hk)) (Nat.mod_lt k hc)
  unfold mxC at this
  rw [← e] at this
  exact this
theorem CanL.sw {p : Int} {r c s t : Nat} {xs : List Int} (h : CanL p xs) (hx : xs.length = r * c) (hs : s < r) (ht : t < r) : CanL p (swC s t c xs) := CanL.of (by rw [swC_length]; exact hx) fun i j hi hj => by
  rw [swC_at hx hi hj]
  refine h.mx hx ?_ hj
  split
  · exact ht
  · split <;> omega
theorem CanL.row {p : Int} {r c i : Nat} {v : Nat → Int} {xs : List Int} (h : CanL p xs) (hx : xs.length = r * c) (hv : ∀ q, q < c → 0 ≤ v q ∧ v q < p) : CanL p (rowL r c i v xs) := CanL.of (rowL_length _ _ _ _ _) fun a j ha hj => by
  by_cases e : a = i
  · rw [e, rowL_own (by omega) hj]; exact hv j hj
  · rw [rowL_oth ha hj e]; exact h.mx hx ha hj
end Go.Proofs.Ytkphlfcbinjknaa
