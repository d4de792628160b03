/-
  Plain mathematics of chapter 8: determinants over residues. Nothing of a program is used.
-/
import Derived.Test.YtkphlfcbinjknaaModM
import Derived.Test.YtkphlfcbinjknaaDet2
namespace Go.Proofs.Ytkphlfcbinjknaa

theorem det_cg {p : Int} {n : Nat} {A B : Mx} (h : ∀ i j, i < n → j < n → Cg p (A i j) (B i j)) : Cg p (det n A) (det n B) := by
  induction n generalizing A B with
  | zero => exact Cg.refl _ _
  | succ n ih =>
    rw [det_succ, det_succ]
    exact Cg.sum fun i hi => ((Cg.refl p (sg i)).mul (h i 0 hi (by omega))).mul (ih fun a b ha hb => h _ _ (skp_lt ha) (skp_lt hb))
theorem det_swap {n r s : Nat} (A : Mx) (hr : r < n) (hs : s < n) (h : r ≠ s) : det n (swR A r s) = -det n A := by
  refine swap_of (det_lin n) ?_ h hr hs A
  rcases Nat.lt_or_ge r s with h1 | h1
  · exact det_alt n r s h1 hs
  · exact fun A hA => det_alt n s r (by omega) hr A fun c hc => (hA c hc).symm
theorem det_scale {n t : Nat} (A : Mx) (z : Int) (ht : t < n) : det n (stR A t fun q => z * A t q) = z * det n A := by
  have h := det_lin n A t (A t) (A t) z 0 ht
  rw [stR_self, Int.zero_mul, Int.add_zero] at h
  rw [← h]
  refine congrArg _ ?_
  funext i j
  unfold stR
  split
  · show z * A t j = z * A t j + 0 * A t j
    rw [Int.zero_mul, Int.add_zero]
  · rfl
theorem det_less {n i t : Nat} (A : Mx) (x : Int) (hi : i < n) (ht : t < n) (h : i ≠ t) : det n (stR A i fun q => A i q - x * A t q) = det n A := by
  have h1 := det_lin n A i (A i) (A t) 1 (-x) hi
  have h0 : det n (stR A i (A t)) = 0 := by
    have e : ∀ c, stR A i (A t) i c = stR A i (A t) t c := fun c => by rw [stR_at, stR_ne _ _ _ _ _ (fun e => h e.symm)]
    rcases Nat.lt_or_ge i t with h2 | h2
    · exact det_alt n i t h2 ht _ fun c _ => e c
    · exact det_alt n t i (by omega) hi _ fun c _ => (e c).symm
  rw [stR_self, h0, Int.mul_zero, Int.add_zero, Int.one_mul] at h1
  rw [← h1]
  refine congrArg _ ?_
  funext a b
  unfold stR
  split
  · show A i b - x * A t b = 1 * A i b + -x * A t b
    rw [Int.one_mul, Int.neg_mul]; omega
  · rfl
/-- A row of zeros. -/
theorem det_zero_row {p : Int} {n i : Nat} {A : Mx} (hi : i < n) (h : ∀ j, j < n → Cg p (A i j) 0) : Cg p (det n A) 0 := by
  have h1 : Cg p (det n A) (det n (stR A i fun q => 0 * A i q)) := det_cg fun a b ha hb => by
    unfold stR
    by_cases e : a = i
    · rw [if_pos e, e]
      show Cg p (A i b) (0 * A i b)
      rw [Int.zero_mul]; exact h b hb
    · rw [if_neg e]; exact Cg.refl _ _
  rw [det_scale A 0 hi, Int.zero_mul] at h1
  exact h1
theorem mulX_cg {p : Int} {n : Nat} {A B C D : Mx} (h : ∀ i j, i < n → j < n → Cg p (A i j) (B i j)) (h' : ∀ i j, i < n → j < n → Cg p (C i j) (D i j)) : ∀ i j, i < n → j < n → Cg p (mulX n A C i j) (mulX n B D i j) := fun i j hi hj => Cg.sum fun k hk => (h i k hi hk).mul (h' k j hk hj)
/-- V is an inverse of M over the residues. -/
def InvX (p : Int) (n : Nat) (M V : Mx) : Prop := ∀ i j, i < n → j < n → Cg p (mulX n V M i j) (idX i j)
theorem InvX.dets {p : Int} {n : Nat} {M V : Mx} (h : InvX p n M V) : Cg p (det n V * det n M) 1 := by
  rw [← det_mul, ← det_id n]
  exact det_cg h
theorem InvX.ne {p : Int} (hp : Prm p) {n : Nat} {M V : Mx} (h : InvX p n M V) : ¬ p ∣ det n M := fun hd =>
  InvP.ne (a := det n M) (x := det n V) hp (by unfold InvP; rw [Int.mul_comm]; exact h.dets) hd
theorem mulX_one {n : Nat} (A : Mx) {i j : Nat} (hj : j < n) : mulX n A idX i j = A i j := by
  show (sumN n fun k => A i k * idX k j) = _
  rw [sumN_one (a := j) hj (fun k _ hne => by unfold idX; rw [if_neg hne, Int.mul_zero])]
  unfold idX
  rw [if_pos rfl, Int.mul_one]
theorem one_mulX {n : Nat} (A : Mx) {i j : Nat} (hi : i < n) : mulX n idX A i j = A i j := by
  show (sumN n fun k => idX i k * A k j) = _
  rw [sumN_one (a := i) hi (fun k _ hne => by unfold idX; rw [if_neg (fun e => hne e.symm), Int.zero_mul])]
  unfold idX
  rw [if_pos rfl, Int.one_mul]
theorem mulX_grp {n : Nat} (A B C : Mx) (i j : Nat) : mulX n (mulX n A B) C i j = mulX n A (mulX n B C) i j := by
  show (sumN n fun k => (sumN n fun l => A i l * B l k) * C k j) = sumN n fun l => A i l * sumN n fun k => B l k * C k j
  have e1 : (sumN n fun k => (sumN n fun l => A i l * B l k) * C k j) = sumN n fun k => sumN n fun l => A i l * B l k * C k j := sumN_congr fun k _ => sumN_mul _ _ _
  rw [e1, sumN_swap]
  refine sumN_congr fun l _ => ?_
  rw [sumN_mul_left]
  exact sumN_congr fun k _ => by rw [Int.mul_assoc]
/-- Inverses from the left and from the right are the same. -/
theorem InvX.both {p : Int} {n : Nat} {M V W : Mx} (h : InvX p n M V) (h' : ∀ i j, i < n → j < n → Cg p (mulX n M W i j) (idX i j)) : ∀ i j, i < n → j < n → Cg p (V i j) (W i j) := fun i j hi hj => by
  have e1 : Cg p (mulX n V (mulX n M W) i j) (V i j) := (mulX_cg (fun a b _ _ => Cg.refl _ _) h' i j hi hj).trans (Cg.of_eq (mulX_one V hj))
  have e2 : Cg p (mulX n (mulX n V M) W i j) (W i j) := (mulX_cg h (fun a b _ _ => Cg.refl _ _) i j hi hj).trans (Cg.of_eq (one_mulX W hi))
  rw [mulX_grp] at e2
  exact e1.symm.trans e2
/-- A left inverse is a right inverse. -/
theorem InvX.right {p : Int} {n : Nat} {M V : Mx} (h : InvX p n M V) : ∀ i j, i < n → j < n → Cg p (mulX n M V i j) (idX i j) := by
  cases n with
  | zero => intro i j hi _; omega
  | succ n =>
    have hw : ∀ i j, i < n + 1 → j < n + 1 → Cg p (mulX (n + 1) M (fun a b => det (n + 1) V * adjX n M a b) i j) (idX i j) := fun i j hi hj => by
      have e : mulX (n + 1) M (fun a b => det (n + 1) V * adjX n M a b) i j = det (n + 1) V * mulX (n + 1) M (adjX n M) i j := by
        show (sumN (n + 1) fun k => M i k * (det (n + 1) V * adjX n M k j)) = det (n + 1) V * sumN (n + 1) fun k => M i k * adjX n M k j
        rw [sumN_mul_left]
        exact sumN_congr fun k _ => by grind
      rw [e, mul_adj n M i j hi hj]
      unfold idX
      by_cases hij : i = j
      · rw [if_pos hij, if_pos hij]; exact h.dets
      · rw [if_neg hij, if_neg hij, Int.mul_zero]; exact Cg.refl _ _
    have hb := h.both hw
    exact fun i j hi hj => (mulX_cg (fun a b _ _ => Cg.refl p (M a b)) hb i j hi hj).trans (hw i j hi hj)
theorem InvX.uniq {p : Int} {n : Nat} {M V W : Mx} (h : InvX p n M V) (h' : InvX p n M W) : ∀ i j, i < n → j < n → Cg p (V i j) (W i j) := h.both h'.right
end Go.Proofs.Ytkphlfcbinjknaa
