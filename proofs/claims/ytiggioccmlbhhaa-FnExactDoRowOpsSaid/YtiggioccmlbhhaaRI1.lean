/-
  Chapter 5, in the program: the kinds of operations.
-/
import Derived.Test.YtiggioccmlbhhaaRowS
import Derived.Test.YtiggioccmlbhhaaMatI
import Derived.Handy
import Derived.Deep.QuietTactic
namespace Go.Proofs.Ytiggioccmlbhhaa
open Go.RowKit

abbrev aggO (k i j t : Int) : Value := .agg #[.int .i64 k, .int .i64 i, .int .i64 j, .int .i64 t]
theorem below1 (w : World) (o : Obj) : Below w.heap.size w (w.alloc o) := (Below.refl _ _).alloc (Nat.le_refl _) o
theorem iOpOf0 (i j t : Int) (w : World) : Calls Try.prog 72 #[aggO 0 i j t] w (Gives (.iface 95 (aggO 0 i j t)) w) := by
  go_enter Try.func72, Try.ntmps72
  go_wp2_with fail
  go_ret
  exact ⟨rfl, below1 _ _⟩
theorem iOpOf1 (i j t : Int) (w : World) : Calls Try.prog 72 #[aggO 1 i j t] w (Gives (.iface 96 (aggO 1 i j t)) w) := by
  go_enter Try.func72, Try.ntmps72
  go_wp2_with fail
  go_ret
  exact ⟨rfl, below1 _ _⟩
theorem iOpOf2 (i j t : Int) (w : World) : Calls Try.prog 72 #[aggO 2 i j t] w (Gives (.iface 97 (aggO 2 i j t)) w) := by
  go_enter Try.func72, Try.ntmps72
  go_wp2_with fail
  go_ret
  exact ⟨rfl, below1 _ _⟩
theorem iOpOfN (k i j t : Int) (w : World) (h : k < 0 ∨ 2 < k) : Calls Try.prog 72 #[aggO k i j t] w (Gives .nilIface w) := by
  have f0 : (k == 0) = false := by simp; omega
  have f1 : (k == 1) = false := by simp; omega
  have f2 : (k == 2) = false := by simp; omega
  clear h
  go_enter Try.func72, Try.ntmps72
  go_wp2_with fail
  go_ret
  exact ⟨rfl, below1 _ _⟩
theorem iFit0 (i j t : Int) (w : World) : Calls Try.prog 102 #[aggO 0 i j t] w (Gives (.bool (decide (j ≠ i ∧ t = 0))) w) := by
  by_cases e1 : j = i
  · subst e1
    rw [show decide (j ≠ j ∧ t = 0) = false by simp]
    go_enter Try.func102, Try.ntmps102
    go_wp2_with fail
    go_ret
    exact ⟨rfl, below1 _ _⟩
  · have g1 : (i != j) = true := by simp; omega
    have g2 : (i == j) = false := by simp; omega
    by_cases e2 : t = 0
    · subst e2
      rw [show decide (j ≠ i ∧ (0 : Int) = 0) = true by simp [e1]]
      clear e1
      go_enter Try.func102, Try.ntmps102
      go_wp2_with fail
      go_ret
      exact ⟨rfl, below1 _ _⟩
    · have g3 : (t == 0) = false := by simp; omega
      rw [show decide (j ≠ i ∧ t = 0) = false by simp [e2]]
      clear e1 e2
      go_enter Try.func102, Try.ntmps102
      go_wp2_with fail
      go_ret
      exact ⟨rfl, below1 _ _⟩
theorem iFit1 (i j t : Int) (w : World) : Calls Try.prog 104 #[aggO 1 i j t] w (Gives (.bool (decide (j = i ∧ t = 0))) w) := by
  by_cases e1 : j = i
  · subst e1
    by_cases e2 : t = 0
    · subst e2
      rw [show decide (j = j ∧ (0 : Int) = 0) = true by simp]
      go_enter Try.func104, Try.ntmps104
      go_wp2_with fail
      go_ret
      exact ⟨rfl, below1 _ _⟩
    · have g3 : (t == 0) = false := by simp; omega
      rw [show decide (j = j ∧ t = 0) = false by simp [e2]]
      clear e2
      go_enter Try.func104, Try.ntmps104
      go_wp2_with fail
      go_ret
      exact ⟨rfl, below1 _ _⟩
  · have g1 : (i != j) = true := by simp; omega
    have g2 : (i == j) = false := by simp; omega
    rw [show decide (j = i ∧ t = 0) = false by simp [e1]]
    clear e1
    go_enter Try.func104, Try.ntmps104
    go_wp2_with fail
    go_ret
    exact ⟨rfl, below1 _ _⟩
theorem iFit2 (i j t : Int) (w : World) : Calls Try.prog 106 #[aggO 2 i j t] w (Gives (.bool (decide (j ≠ i))) w) := by
  by_cases e1 : j = i
  · subst e1
    rw [show decide (j ≠ j) = false by simp]
    go_enter Try.func106, Try.ntmps106
    go_wp2_with fail
    go_ret
    exact ⟨rfl, below1 _ _⟩
  · have g1 : (i != j) = true := by simp; omega
    have g2 : (i == j) = false := by simp; omega
    rw [show decide (j ≠ i) = true by simp [e1]]
    clear e1
    go_enter Try.func106, Try.ntmps106
    go_wp2_with fail
    go_ret
    exact ⟨rfl, below1 _ _⟩
theorem iDo0 (x y i j t : Int) (w : World) : Calls Try.prog 101 #[aggO 0 i j t, .int .i64 x, .int .i64 y] w (Gives (.tuple #[.int .i64 y, .int .i64 x, .bool true]) w) := by
  go_enter Try.func101, Try.ntmps101
  go_wp2_with fail
  exact bodyPost_ret (v := .tuple #[.int .i64 y, .int .i64 x, .bool true]) (by simp [results, Try.results101, go_sem]) rfl ⟨rfl, below1 _ _⟩
theorem iDo1 (x y i j t : Int) (w : World) (hx : NumP x) : Calls Try.prog 103 #[aggO 1 i j t, .int .i64 x, .int .i64 y] w (Gives (.tuple #[.int .i64 (-x), .int .i64 (-x), .bool true]) w) := by
  obtain ⟨x1, x2⟩ := hx
  have v : IntKind.i64.wrap (-x) = -x := IntWalk.i64_in _ (by omega)
  clear x1 x2
  go_enter Try.func103, Try.ntmps103
  go_wp2_with fail
  exact bodyPost_ret (v := .tuple #[.int .i64 (-x), .int .i64 (-x), .bool true]) (by simp [results, Try.results103, go_sem]) rfl ⟨rfl, below1 _ _⟩
theorem iDo2 (x y i j t : Int) (w : World) (hx : NumP x) (hy : NumP y) (ht : NumP t) : Calls Try.prog 105 #[aggO 2 i j t, .int .i64 x, .int .i64 y] w (Gives (.tuple #[.int .i64 (x + y * t), .int .i64 y, .bool (decide (NumP (y * t)))]) w) := by
  obtain ⟨m1, m2⟩ := mul_num y t hy ht
  obtain ⟨x1, x2⟩ := hx
  have v1 : IntKind.i64.wrap (y * t) = y * t := IntWalk.i64_in _ (by omega)
  have v2 : IntKind.i64.wrap (x + y * t) = x + y * t := IntWalk.i64_in _ (by omega)
  clear m1 m2 x1 x2 hy ht
  go_enter Try.func105, Try.ntmps105
  go_wp2_with fail
  go_quiet ((refine (iIsNum _ _).mono ?_; rintro e w' ⟨rfl, rfl⟩; exact ⟨rfl, _, rfl⟩))
  go_wp2_with fail
  exact bodyPost_ret (v := .tuple #[.int .i64 (x + y * t), .int .i64 y, .bool (decide (NumP (y * t)))]) (by simp [results, Try.results105, go_sem]) rfl ⟨rfl, below_drewN (below1 _ _) nq⟩
theorem iRow (n rows : Int) (pb : Nat) (w : World) (hc : w.cell? ⟨pb, 0, none⟩ = some (.int .i64 rows)) : Calls Try.prog 70 #[.int .i64 n, .pointer (some ⟨pb, 0, none⟩)] w fun e w' => e = .returned (.bool (decide (0 ≤ n ∧ n < rows))) ∧ w = w' := by
  by_cases h0 : 0 ≤ n
  · by_cases h1 : n < rows
    · rw [show decide (0 ≤ n ∧ n < rows) = true by simp [h0, h1]]
      go_enter Try.func70, Try.ntmps70
      go_wp2_with fail
      go_ret
      exact ⟨rfl, rfl⟩
    · rw [show decide (0 ≤ n ∧ n < rows) = false by simp [h1]]
      have h2 : decide (n < rows) = false := by simpa using h1
      go_enter Try.func70, Try.ntmps70
      go_wp2_with fail
      go_ret
      exact ⟨rfl, rfl⟩
  · rw [show decide (0 ≤ n ∧ n < rows) = false by simp [h0]]
    have h2 : decide (0 ≤ n) = false := by simpa using h0
    go_enter Try.func70, Try.ntmps70
    go_wp2_with fail
    go_ret
    exact ⟨rfl, rfl⟩
end Go.Proofs.Ytiggioccmlbhhaa
