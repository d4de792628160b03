/-
  Plain mathematics of chapter 7: the rank of a matrix turned over; products. Nothing of a program is used.
-/
import Derived.Test.YtpknondccajinaaSpn
import Derived.Test.YtpknondccajinaaDet2
namespace Go.Proofs.Ytpknondccajinaa

theorem sumN_skip (n a : Nat) (ha : a < n + 1) (f : Nat → Int) : sumN (n + 1) f = f a + sumN n fun i => f (skp a i) := by
  induction n generalizing a with
  | zero =>
    obtain rfl : a = 0 := by omega
    show sumN 0 f + f 0 = _
    simp [sumN]
  | succ n ih =>
    rcases Nat.lt_or_ge a (n + 1) with h | h
    · have e := ih a h
      have e2 : skp a n = n + 1 := by unfold skp; rw [if_neg (by omega)]
      have : sumN (n + 1) (fun i => f (skp a i)) = sumN n (fun i => f (skp a i)) + f (skp a n) := rfl
      rw [this, e2]
      show sumN (n + 1) f + f (n + 1) = _
      rw [e, Int.add_assoc]
    · obtain rfl : a = n + 1 := by omega
      show sumN (n + 1) f + f (n + 1) = _
      rw [Int.add_comm]
      congr 1
      refine sumN_congr fun i hi => ?_
      unfold skp
      rw [if_pos (by omega)]
/-- More unknowns than equations: there is a solution that is not 0. -/
theorem ker_some : ∀ (t s : Nat) (C : Mx), t < s → ∃ l : Nat → Int, (∃ i, i < s ∧ l i ≠ 0) ∧ ∀ j, j < t → (sumN s fun i => l i * C i j) = 0 := by
  intro t
  induction t with
  | zero => intro s C hs; exact ⟨fun _ => 1, ⟨0, hs, by decide⟩, fun j hj => by omega⟩
  | succ t ih =>
    intro s C hs
    by_cases hz : ∀ i, i < s → C i t = 0
    · obtain ⟨l, hl, h0⟩ := ih s C (by omega)
      refine ⟨l, hl, fun j hj => ?_⟩
      rcases Nat.lt_or_ge j t with h | h
      · exact h0 j h
      · obtain rfl : j = t := by omega
        exact sumN_all_zero fun i hi => by rw [hz i hi, Int.mul_zero]
    · have : ∃ a, a < s ∧ C a t ≠ 0 := Classical.byContradiction fun hn => hz fun i hi => Classical.byContradiction fun h => hn ⟨i, hi, h⟩
      obtain ⟨a, ha, hat⟩ := this
      obtain ⟨s, rfl⟩ : ∃ m, s = m + 1 := ⟨s - 1, by omega⟩
      obtain ⟨l, ⟨b, hb, hlb⟩, h0⟩ := ih s (fun i j => C a t * C (skp a i) j - C (skp a i) t * C a j) (by omega)
      have hself : ∀ i, skp a i ≠ a := fun i => skp_ne a i
      let L : Nat → Int := fun i => if i = a then -(sumN s fun i => l i * C (skp a i) t) else C a t * l (unskp a i)
      have LA : L a = -(sumN s fun i => l i * C (skp a i) t) := if_pos rfl
      have LS : ∀ i, L (skp a i) = C a t * l i := fun i => by
        show (if skp a i = a then _ else _) = _
        rw [if_neg (hself i), unskp_skp]
      refine ⟨L, ⟨skp a b, skp_lt hb, by rw [LS]; exact Int.mul_ne_zero hat hlb⟩, fun j hj => ?_⟩
      rw [sumN_skip s a ha, LA, Int.neg_mul, sumN_mul]
      have e1 : (sumN s fun i => L (skp a i) * C (skp a i) j) = sumN s fun i => C a t * l i * C (skp a i) j := sumN_congr fun i _ => by rw [LS]
      rw [e1]
      rcases Nat.lt_or_ge j t with h | h
      · have := h0 j h
        have e2 : (sumN s fun i => C a t * l i * C (skp a i) j) = sumN s (fun i => l i * (C a t * C (skp a i) j - C (skp a i) t * C a j)) + sumN s (fun i => l i * C (skp a i) t * C a j) := by
          rw [← sumN_add]
          exact sumN_congr fun i _ => by grind
        rw [e2, this]
        omega
      · obtain rfl : j = t := by omega
        have e2 : (sumN s fun i => C a j * l i * C (skp a i) j) = sumN s (fun i => l i * C (skp a i) j * C a j) := sumN_congr fun i _ => by grind
        rw [e2]
        omega
/-- One divisor for all. -/
theorem one_den {r c s : Nat} {A B : Mx} (h : SubSp r s c A B) : ∃ (d : Int) (K : Mx), d ≠ 0 ∧ ∀ i j, i < r → j < c → d * A i j = sumN s fun k => K i k * B k j := by
  induction r with
  | zero => exact ⟨1, fun _ _ => 0, by decide, fun i j hi => by omega⟩
  | succ r ih =>
    obtain ⟨d, K, hd, hK⟩ := ih fun i hi => h i (by omega)
    obtain ⟨e, k, he, hk⟩ := h r (by omega)
    refine ⟨d * e, fun i j => if i = r then d * k j else e * K i j, Int.mul_ne_zero hd he, fun i j hi hj => ?_⟩
    by_cases hir : i = r
    · subst hir
      have e1 : (sumN s fun l => (if i = i then d * k l else e * K i l) * B l j) = sumN s fun l => d * (k l * B l j) := sumN_congr fun l _ => by rw [if_pos rfl, Int.mul_assoc]
      show _ = sumN s fun l => (if i = i then d * k l else e * K i l) * B l j
      rw [e1, ← sumN_mul_left, ← hk j hj, Int.mul_assoc]
    · have e1 : (sumN s fun l => (if i = r then d * k l else e * K i l) * B l j) = sumN s fun l => e * (K i l * B l j) := sumN_congr fun l _ => by rw [if_neg hir, Int.mul_assoc]
      show _ = sumN s fun l => (if i = r then d * k l else e * K i l) * B l j
      rw [e1, ← sumN_mul_left, ← hK i j (by omega) hj]
      grind
/-- An echelon form inside the span of t rows has at most t pivots. -/
theorem Ech.few {r c s : Nat} {B : Mx} {q : Nat → Nat} (h : Ech r c B q s) {t : Nat} {K : Mx} (hs : SubSp r t c B K) : s ≤ t := by
  refine Classical.byContradiction fun hn => ?_
  obtain ⟨d, C, hd, hC⟩ := one_den hs
  obtain ⟨l, ⟨i, hi, hli⟩, h0⟩ := ker_some t s C (by omega)
  have hr : s ≤ r := h.le
  have hz : ∀ j, j < c → (sumN s fun i => l i * (d * B i j)) = 0 := fun j hj => by
    have e : (sumN s fun i => l i * (d * B i j)) = sumN s fun i => sumN t fun k => l i * C i k * K k j := sumN_congr fun i hi => by
      rw [hC i j (by omega) hj, sumN_mul_left]
      exact sumN_congr fun k _ => by rw [Int.mul_assoc]
    rw [e, sumN_swap]
    refine sumN_all_zero fun k hk => ?_
    rw [← sumN_mul, h0 k hk, Int.zero_mul]
  have := hz (q i) (h.col i hi)
  rw [sumN_one hi (fun k hk hne => by rw [h.only i k hi (by omega) hne, Int.mul_zero, Int.mul_zero])] at this
  have hp := h.pos i hi
  rcases Int.mul_eq_zero.mp this with h1 | h1
  · exact hli h1
  · rcases Int.mul_eq_zero.mp h1 with h2 | h2
    · exact hd h2
    · omega
theorem rank_tr_le {r c t s : Nat} {M A B : Mx} {p q : Nat → Nat} (hA : Ech r c A p t) (hMA : SubSp r r c M A) (hB : Ech c r B q s) (hBM : SubSp c c r B (trX M)) : s ≤ t := by
  -- the rows of A behind the pivots' are 0
  have hMA' : SubSp r t c M A := fun i hi => by
    obtain ⟨d, k, hd, hk⟩ := hMA i hi
    refine ⟨d, k, hd, fun j hj => ?_⟩
    rw [hk j hj]
    obtain ⟨m, hm⟩ : ∃ m, r = t + m := ⟨r - t, by have := hA.le; omega⟩
    have key : ∀ m, t + m ≤ r → (sumN (t + m) fun i => k i * A i j) = sumN t fun i => k i * A i j := by
      intro m
      induction m with
      | zero => intro _; rfl
      | succ m ih =>
        intro h
        show sumN (t + m) _ + k (t + m) * A (t + m) j = _
        rw [ih (by omega), hA.rest (t + m) j (by omega) (by omega) hj, Int.mul_zero, Int.add_zero]
    rw [hm]
    exact key m (by omega)
  obtain ⟨d, K, hd, hK⟩ := one_den hMA'
  have hsub : SubSp c t r (trX M) (trX K) := fun j hj => ⟨d, fun k => A k j, hd, fun i hi => by
    show d * M i j = sumN t fun k => A k j * K i k
    rw [hK i j hi hj]
    exact sumN_congr fun k _ => Int.mul_comm _ _⟩
  exact hB.few (hBM.trans hsub)
/-- The rank of a matrix turned over is that of the matrix. -/
theorem rank_tr {r c t s : Nat} {M A B : Mx} {p q : Nat → Nat} (hA : Ech r c A p t) (hMA : SubSp r r c M A) (hAM : SubSp r r c A M) (hB : Ech c r B q s) (hBM : SubSp c c r B (trX M)) (hMB : SubSp c c r (trX M) B) : s = t := by
  have h1 := rank_tr_le hA hMA hB hBM
  have h2 := rank_tr_le (M := trX M) hB hMB hA hAM
  omega
/-- The rows of a product are in the span of the right factor's. -/
theorem sub_mul {n c : Nat} (U M : Mx) : SubSp n n c (mulX n U M) M := fun i _ => ⟨1, U i, by decide, fun j _ => by rw [Int.one_mul]; rfl⟩
theorem mul_sub {n c : Nat} {U M V : Mx} {d : Int} (hd : d ≠ 0) (h : ∀ i k, i < n → k < n → mulX n V U i k = if i = k then d else 0) : SubSp n n c M (mulX n U M) := fun i hi => by
  refine ⟨d, V i, hd, fun j hj => ?_⟩
  have e : (sumN n fun k => V i k * mulX n U M k j) = sumN n fun l => mulX n V U i l * M l j := by
    have e1 : (sumN n fun k => V i k * mulX n U M k j) = sumN n fun k => sumN n fun l => V i k * U k l * M l j := sumN_congr fun k _ => by
      show V i k * sumN n _ = _
      rw [sumN_mul_left]
      exact sumN_congr fun l _ => by rw [Int.mul_assoc]
    rw [e1, sumN_swap]
    refine sumN_congr fun l _ => ?_
    show _ = sumN n _ * M l j
    rw [sumN_mul]
  rw [e, sumN_one hi (fun l hl hne => by rw [h i l hi hl, if_neg (fun e => hne e.symm), Int.zero_mul]), h i i hi hi, if_pos rfl]
/-- A product with a factor whose determinant is not 0 spans what the other factor spans. -/
theorem span_mul {n c : Nat} {U M : Mx} (h : det n U ≠ 0) : SubSp n n c M (mulX n U M) := by
  cases n with
  | zero => intro i hi; omega
  | succ n => exact mul_sub h (fun i k hi hk => adj_mul n U i k hi hk)
/-- Two matrices, one on top of the other. -/
def stkX (r : Nat) (A B : Mx) : Mx := fun i j => if i < r then A i j else B (i - r) j
theorem stk_left {r s c : Nat} {A B : Mx} : SubSp r (r + s) c A (stkX r A B) := fun i hi => (InSp.row (A := stkX r A B) (show i < r + s by omega)).congr fun j _ => by show A i j = if i < r then _ else _; rw [if_pos hi]
theorem stk_right {r s c : Nat} {A B : Mx} : SubSp s (r + s) c B (stkX r A B) := fun i hi => (InSp.row (A := stkX r A B) (show r + i < r + s by omega)).congr fun j _ => by
  show B i j = if r + i < r then _ else B (r + i - r) j
  rw [if_neg (by omega), show r + i - r = i by omega]
theorem stk_sub {r s t c : Nat} {A B C : Mx} (h : SubSp r t c A C) (h' : SubSp s t c B C) : SubSp (r + s) t c (stkX r A B) C := fun i hi => by
  by_cases e : i < r
  · exact (h i e).congr fun j _ => by show (if i < r then _ else _) = _; rw [if_pos e]
  · exact (h' (i - r) (by omega)).congr fun j _ => by show (if i < r then _ else _) = _; rw [if_neg e]
end Go.Proofs.Ytpknondccajinaa
