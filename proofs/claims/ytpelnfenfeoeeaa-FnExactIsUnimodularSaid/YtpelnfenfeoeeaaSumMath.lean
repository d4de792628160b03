/-
  Plain mathematics: finite sums. Nothing of a program is used.
-/
import Derived.WalkKit
namespace Go.Proofs.Ytpelnfenfeoeeaa

def sumN : Nat → (Nat → Int) → Int
  | 0, _ => 0
  | n + 1, f => sumN n f + f n
theorem sumN_congr {n : Nat} {f g : Nat → Int} (h : ∀ k : Nat, k < n → f k = g k) : sumN n f = sumN n g := by
  induction n with
  | zero => rfl
  | succ n ih =>
    show sumN n f + f n = sumN n g + g n
    rw [ih (fun k hk => h k (by omega)), h n (by omega)]
theorem sumN_add (n : Nat) (f g : Nat → Int) : sumN n (fun k => f k + g k) = sumN n f + sumN n g := by
  induction n with
  | zero => rfl
  | succ n ih =>
    show sumN n (fun k => f k + g k) + (f n + g n) = (sumN n f + f n) + (sumN n g + g n)
    rw [ih]; omega
theorem sumN_mul (n : Nat) (f : Nat → Int) (z : Int) : sumN n f * z = sumN n (fun k => f k * z) := by
  induction n with
  | zero => exact Int.zero_mul z
  | succ n ih =>
    show (sumN n f + f n) * z = sumN n (fun k => f k * z) + f n * z
    rw [Int.add_mul, ih]
theorem sumN_mul_left (n : Nat) (f : Nat → Int) (z : Int) : z * sumN n f = sumN n (fun k => z * f k) := by
  rw [Int.mul_comm, sumN_mul]
  exact sumN_congr fun k _ => Int.mul_comm _ _
theorem sumN_zero (n : Nat) : sumN n (fun _ => 0) = 0 := by
  induction n with
  | zero => rfl
  | succ n ih => show sumN n (fun _ => 0) + 0 = 0; rw [ih]; rfl
theorem sumN_swap (m n : Nat) (f : Nat → Nat → Int) : sumN m (fun i => sumN n (fun j => f i j)) = sumN n (fun j => sumN m (fun i => f i j)) := by
  induction m with
  | zero => exact (sumN_zero n).symm
  | succ m ih =>
    show sumN m (fun i => sumN n (fun j => f i j)) + sumN n (fun j => f m j) = sumN n (fun j => sumN m (fun i => f i j) + f m j)
    rw [ih, sumN_add]
end Go.Proofs.Ytpelnfenfeoeeaa
