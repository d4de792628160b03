/-
  Chapter 5, in the model: sums and products with a mark for what is beyond the limit; IsRowOp.
-/
import Derived.Test.YtpelnfenfeoeeaaBlk4
import Derived.Test.YtpelnfenfeoeeaaMatMath
import Derived.IntWalk
namespace Go.Proofs.Ytpelnfenfeoeeaa
open Go.RowKit

def badN : Int := -4611686018427387904
def fitB (n : Int) : Int := if NumP n then n else badN
def addB (a b : Int) : Int := if a = badN ∨ b = badN then badN else fitB (wrap64 (a + b))
def mulB (a b : Int) : Int := if a = badN ∨ b = badN then badN else fitB (wrap64 (a * b))
theorem sFit (n : Int) (w : World) : Calls Try.prog 123 #[.int .i64 n] w fun e w' => e = .returned (.int .i64 (fitB n)) ∧ w = w' := by
  by_cases h : NumP n
  · have E : Hid (fitB n = n) := by show fitB n = n; unfold fitB; rw [if_pos h]
    obtain ⟨h1, h2⟩ := h
    go_enter Try.func123, Try.ntmps123
    go_wp2_with fail
    refine (sIn_t n (-400000000) 400000000 _ h1 h2).mono ?_
    rintro e w' ⟨rfl, rfl⟩
    go_wp2_with fail
    go_ret
    exact ⟨by rw [E.out]; rfl, rfl⟩
  · have E : Hid (fitB n = badN) := by show fitB n = _; unfold fitB; rw [if_neg h]
    have h' : n < -400000000 ∨ 400000000 < n := by unfold NumP at h; omega
    clear h
    go_enter Try.func123, Try.ntmps123
    go_wp2_with fail
    refine (sIn_f n (-400000000) 400000000 _ h').mono ?_
    rintro e w' ⟨rfl, rfl⟩
    go_wp2_with fail
    go_ret
    exact ⟨by rw [E.out]; rfl, rfl⟩
theorem sAddB (a b : Int) (w : World) : Calls Try.prog 146 #[.int .i64 a, .int .i64 b] w fun e w' => e = .returned (.int .i64 (addB a b)) ∧ w = w' := by
  by_cases h1 : a = -4611686018427387904
  · have E : Hid (addB a b = badN) := by show addB a b = _; unfold addB; rw [if_pos (.inl h1)]
    have n1 : (a == -4611686018427387904) = true := by simpa using h1
    clear h1
    go_enter Try.func146, Try.ntmps146
    go_wp2_with fail
    go_ret
    exact ⟨by rw [E.out]; rfl, rfl⟩
  · have n1 : (a == -4611686018427387904) = false := by simpa using h1
    by_cases h2 : b = -4611686018427387904
    · have E : Hid (addB a b = badN) := by show addB a b = _; unfold addB; rw [if_pos (.inr h2)]
      have n2 : (b == -4611686018427387904) = true := by simpa using h2
      clear h1 h2
      go_enter Try.func146, Try.ntmps146
      go_wp2_with fail
      go_ret
      exact ⟨by rw [E.out]; rfl, rfl⟩
    · have E : Hid (addB a b = fitB (wrap64 (a + b))) := by show addB a b = _; unfold addB; rw [if_neg (by rintro (h | h); exact h1 h; exact h2 h)]
      have n2 : (b == -4611686018427387904) = false := by simpa using h2
      clear h1 h2
      go_enter Try.func146, Try.ntmps146
      go_wp2_with fail
      refine (sFit _ _).mono ?_
      rintro e w' ⟨rfl, rfl⟩
      go_wp2_with fail
      go_ret
      exact ⟨by rw [E.out]; rfl, rfl⟩
theorem sMulB (a b : Int) (w : World) : Calls Try.prog 147 #[.int .i64 a, .int .i64 b] w fun e w' => e = .returned (.int .i64 (mulB a b)) ∧ w = w' := by
  by_cases h1 : a = -4611686018427387904
  · have E : Hid (mulB a b = badN) := by show mulB a b = _; unfold mulB; rw [if_pos (.inl h1)]
    have n1 : (a == -4611686018427387904) = true := by simpa using h1
    clear h1
    go_enter Try.func147, Try.ntmps147
    go_wp2_with fail
    go_ret
    exact ⟨by rw [E.out]; rfl, rfl⟩
  · have n1 : (a == -4611686018427387904) = false := by simpa using h1
    by_cases h2 : b = -4611686018427387904
    · have E : Hid (mulB a b = badN) := by show mulB a b = _; unfold mulB; rw [if_pos (.inr h2)]
      have n2 : (b == -4611686018427387904) = true := by simpa using h2
      clear h1 h2
      go_enter Try.func147, Try.ntmps147
      go_wp2_with fail
      go_ret
      exact ⟨by rw [E.out]; rfl, rfl⟩
    · have E : Hid (mulB a b = fitB (wrap64 (a * b))) := by show mulB a b = _; unfold mulB; rw [if_neg (by rintro (h | h); exact h1 h; exact h2 h)]
      have n2 : (b == -4611686018427387904) = false := by simpa using h2
      clear h1 h2
      go_enter Try.func147, Try.ntmps147
      go_wp2_with fail
      refine (sFit _ _).mono ?_
      rintro e w' ⟨rfl, rfl⟩
      go_wp2_with fail
      go_ret
      exact ⟨by rw [E.out]; rfl, rfl⟩
theorem sIn (n a b : Int) (w : World) : Calls Try.prog 70 #[.int .i64 n, .int .i64 a, .int .i64 b] w fun e w' => e = .returned (.bool (decide (a ≤ n ∧ n ≤ b))) ∧ w = w' := by
  by_cases h : a ≤ n ∧ n ≤ b
  · rw [decide_eq_true h]; exact sIn_t n a b w h.1 h.2
  · rw [decide_eq_false h]; exact sIn_f n a b w (by omega)
theorem sIsNum (n : Int) (w : World) : Calls Try.prog 105 #[.int .i64 n] w fun e w' => e = .returned (.bool (decide (NumP n))) ∧ w = w' := by
  by_cases h : NumP n
  · rw [decide_eq_true h]; exact sIsNum_t n w h.1 h.2
  · rw [decide_eq_false h]; exact sIsNum_f n w (by unfold NumP at h; omega)

/-! ### IsRowOp -/
/-- Kind, the two rows and the number, for so many rows. -/
def rangeOp (k i j t rows : Int) : Bool := decide (0 ≤ k ∧ k ≤ 2) && decide (0 ≤ rows ∧ rows ≤ 24) && decide (0 ≤ i ∧ i ≤ rows - 1) && decide (0 ≤ j ∧ j ≤ rows - 1) && decide (NumP t)
def isOp (k i j t rows : Int) : Bool := rangeOp k i j t rows && (if k = 1 then decide (j = i ∧ t = 0) else if k = 0 then decide (j ≠ i ∧ t = 0) else decide (j ≠ i))
set_option maxHeartbeats 1000000 in
theorem sIsOp (k i j t rows : Int) (w : World) : Calls Try.prog 143 #[.agg #[.int .i64 k, .int .i64 i, .int .i64 j, .int .i64 t], .int .i64 rows] w (Gives (.bool (isOp k i j t rows)) w) := by
  have BH : Hid (∀ o, Below w.heap.size w (w.alloc o)) := fun o => (Below.refl _ _).alloc (Nat.le_refl _) o
  have fin : ∀ (w1 : World) b, w1 = w.alloc (.cells #[.int .i64 k, .int .i64 i, .int .i64 j, .int .i64 t] 97) → isOp k i j t rows = b → Gives (.bool (isOp k i j t rows)) w (.returned (.bool b)) w1 := fun w1 b h1 h2 => ⟨by rw [h2], by rw [h1]; exact BH.out _⟩
  have FIN := Lib.hid fin
  clear fin BH
  by_cases h1 : 0 ≤ k ∧ k ≤ 2
  · by_cases h2 : 0 ≤ rows ∧ rows ≤ 24
    · have v1 : IntKind.i64.wrap (rows - 1) = rows - 1 := IntWalk.i64_in _ (by omega)
      by_cases h3 : 0 ≤ i ∧ i ≤ rows - 1
      · by_cases h4 : 0 ≤ j ∧ j ≤ rows - 1
        · by_cases h5 : NumP t
          · have R : rangeOp k i j t rows = true := by unfold rangeOp; rw [decide_eq_true h1, decide_eq_true h2, decide_eq_true h3, decide_eq_true h4, decide_eq_true h5]; rfl
            have E : isOp k i j t rows = (if k = 1 then decide (j = i ∧ t = 0) else if k = 0 then decide (j ≠ i ∧ t = 0) else decide (j ≠ i)) := by unfold isOp; rw [R]; rfl
            have EH := Lib.hid E
            obtain ⟨t1, t2⟩ := h5
            clear E R
            have hk : k = 0 ∨ k = 1 ∨ k = 2 := by omega
            by_cases e1 : j = i
            · by_cases e2 : t = 0
              · rcases hk with rfl | rfl | rfl
                · have f1 : (j == i) = true := by simpa using e1
                  have f2 : (j != i) = false := by simpa using e1
                  have f3 : (t == 0) = true := by simpa using e2
                  have V : Hid (isOp 0 i j t rows = false) := by show isOp 0 i j t rows = false; rw [EH.out]; simp [e1, e2]
                  clear e1 e2
                  go_enter Try.func143, Try.ntmps143
                  go_wp2_with (first | (go_at_call 70; refine (sIn_t _ _ _ _ (by omega) (by omega)).mono ?_; rintro e w' ⟨rfl, rfl⟩) | (go_at_call 105; refine (sIsNum_t _ _ t1 t2).mono ?_; rintro e w' ⟨rfl, rfl⟩))
                  go_ret
                  exact FIN.out _ _ rfl V.out
                · have f1 : (j == i) = true := by simpa using e1
                  have f2 : (j != i) = false := by simpa using e1
                  have f3 : (t == 0) = true := by simpa using e2
                  have V : Hid (isOp 1 i j t rows = true) := by show isOp 1 i j t rows = true; rw [EH.out]; simp [e1, e2]
                  clear e1 e2
                  go_enter Try.func143, Try.ntmps143
                  go_wp2_with (first | (go_at_call 70; refine (sIn_t _ _ _ _ (by omega) (by omega)).mono ?_; rintro e w' ⟨rfl, rfl⟩) | (go_at_call 105; refine (sIsNum_t _ _ t1 t2).mono ?_; rintro e w' ⟨rfl, rfl⟩))
                  go_ret
                  exact FIN.out _ _ rfl V.out
                · have f1 : (j == i) = true := by simpa using e1
                  have f2 : (j != i) = false := by simpa using e1
                  have f3 : (t == 0) = true := by simpa using e2
                  have V : Hid (isOp 2 i j t rows = false) := by show isOp 2 i j t rows = false; rw [EH.out]; simp [e1]
                  clear e1 e2
                  go_enter Try.func143, Try.ntmps143
                  go_wp2_with (first | (go_at_call 70; refine (sIn_t _ _ _ _ (by omega) (by omega)).mono ?_; rintro e w' ⟨rfl, rfl⟩) | (go_at_call 105; refine (sIsNum_t _ _ t1 t2).mono ?_; rintro e w' ⟨rfl, rfl⟩))
                  go_ret
                  exact FIN.out _ _ rfl V.out
              · rcases hk with rfl | rfl | rfl
                · have f1 : (j == i) = true := by simpa using e1
                  have f2 : (j != i) = false := by simpa using e1
                  have f3 : (t == 0) = false := by simpa using e2
                  have V : Hid (isOp 0 i j t rows = false) := by show isOp 0 i j t rows = false; rw [EH.out]; simp [e1, e2]
                  clear e1 e2
                  go_enter Try.func143, Try.ntmps143
                  go_wp2_with (first | (go_at_call 70; refine (sIn_t _ _ _ _ (by omega) (by omega)).mono ?_; rintro e w' ⟨rfl, rfl⟩) | (go_at_call 105; refine (sIsNum_t _ _ t1 t2).mono ?_; rintro e w' ⟨rfl, rfl⟩))
                  go_ret
                  exact FIN.out _ _ rfl V.out
                · have f1 : (j == i) = true := by simpa using e1
                  have f2 : (j != i) = false := by simpa using e1
                  have f3 : (t == 0) = false := by simpa using e2
                  have V : Hid (isOp 1 i j t rows = false) := by show isOp 1 i j t rows = false; rw [EH.out]; simp [e1, e2]
                  clear e1 e2
                  go_enter Try.func143, Try.ntmps143
                  go_wp2_with (first | (go_at_call 70; refine (sIn_t _ _ _ _ (by omega) (by omega)).mono ?_; rintro e w' ⟨rfl, rfl⟩) | (go_at_call 105; refine (sIsNum_t _ _ t1 t2).mono ?_; rintro e w' ⟨rfl, rfl⟩))
                  go_ret
                  exact FIN.out _ _ rfl V.out
                · have f1 : (j == i) = true := by simpa using e1
                  have f2 : (j != i) = false := by simpa using e1
                  have f3 : (t == 0) = false := by simpa using e2
                  have V : Hid (isOp 2 i j t rows = false) := by show isOp 2 i j t rows = false; rw [EH.out]; simp [e1]
                  clear e1 e2
                  go_enter Try.func143, Try.ntmps143
                  go_wp2_with (first | (go_at_call 70; refine (sIn_t _ _ _ _ (by omega) (by omega)).mono ?_; rintro e w' ⟨rfl, rfl⟩) | (go_at_call 105; refine (sIsNum_t _ _ t1 t2).mono ?_; rintro e w' ⟨rfl, rfl⟩))
                  go_ret
                  exact FIN.out _ _ rfl V.out
            · by_cases e2 : t = 0
              · rcases hk with rfl | rfl | rfl
                · have f1 : (j == i) = false := by simpa using e1
                  have f2 : (j != i) = true := by simpa using e1
                  have f3 : (t == 0) = true := by simpa using e2
                  have V : Hid (isOp 0 i j t rows = true) := by show isOp 0 i j t rows = true; rw [EH.out]; simp [e1, e2]
                  clear e1 e2
                  go_enter Try.func143, Try.ntmps143
                  go_wp2_with (first | (go_at_call 70; refine (sIn_t _ _ _ _ (by omega) (by omega)).mono ?_; rintro e w' ⟨rfl, rfl⟩) | (go_at_call 105; refine (sIsNum_t _ _ t1 t2).mono ?_; rintro e w' ⟨rfl, rfl⟩))
                  go_ret
                  exact FIN.out _ _ rfl V.out
                · have f1 : (j == i) = false := by simpa using e1
                  have f2 : (j != i) = true := by simpa using e1
                  have f3 : (t == 0) = true := by simpa using e2
                  have V : Hid (isOp 1 i j t rows = false) := by show isOp 1 i j t rows = false; rw [EH.out]; simp [e1, e2]
                  clear e1 e2
                  go_enter Try.func143, Try.ntmps143
                  go_wp2_with (first | (go_at_call 70; refine (sIn_t _ _ _ _ (by omega) (by omega)).mono ?_; rintro e w' ⟨rfl, rfl⟩) | (go_at_call 105; refine (sIsNum_t _ _ t1 t2).mono ?_; rintro e w' ⟨rfl, rfl⟩))
                  go_ret
                  exact FIN.out _ _ rfl V.out
                · have f1 : (j == i) = false := by simpa using e1
                  have f2 : (j != i) = true := by simpa using e1
                  have f3 : (t == 0) = true := by simpa using e2
                  have V : Hid (isOp 2 i j t rows = true) := by show isOp 2 i j t rows = true; rw [EH.out]; simp [e1]
                  clear e1 e2
                  go_enter Try.func143, Try.ntmps143
                  go_wp2_with (first | (go_at_call 70; refine (sIn_t _ _ _ _ (by omega) (by omega)).mono ?_; rintro e w' ⟨rfl, rfl⟩) | (go_at_call 105; refine (sIsNum_t _ _ t1 t2).mono ?_; rintro e w' ⟨rfl, rfl⟩))
                  go_ret
                  exact FIN.out _ _ rfl V.out
              · rcases hk with rfl | rfl | rfl
                · have f1 : (j == i) = false := by simpa using e1
                  have f2 : (j != i) = true := by simpa using e1
                  have f3 : (t == 0) = false := by simpa using e2
                  have V : Hid (isOp 0 i j t rows = false) := by show isOp 0 i j t rows = false; rw [EH.out]; simp [e1, e2]
                  clear e1 e2
                  go_enter Try.func143, Try.ntmps143
                  go_wp2_with (first | (go_at_call 70; refine (sIn_t _ _ _ _ (by omega) (by omega)).mono ?_; rintro e w' ⟨rfl, rfl⟩) | (go_at_call 105; refine (sIsNum_t _ _ t1 t2).mono ?_; rintro e w' ⟨rfl, rfl⟩))
                  go_ret
                  exact FIN.out _ _ rfl V.out
                · have f1 : (j == i) = false := by simpa using e1
                  have f2 : (j != i) = true := by simpa using e1
                  have f3 : (t == 0) = false := by simpa using e2
                  have V : Hid (isOp 1 i j t rows = false) := by show isOp 1 i j t rows = false; rw [EH.out]; simp [e1, e2]
                  clear e1 e2
                  go_enter Try.func143, Try.ntmps143
                  go_wp2_with (first | (go_at_call 70; refine (sIn_t _ _ _ _ (by omega) (by omega)).mono ?_; rintro e w' ⟨rfl, rfl⟩) | (go_at_call 105; refine (sIsNum_t _ _ t1 t2).mono ?_; rintro e w' ⟨rfl, rfl⟩))
                  go_ret
                  exact FIN.out _ _ rfl V.out
                · have f1 : (j == i) = false := by simpa using e1
                  have f2 : (j != i) = true := by simpa using e1
                  have f3 : (t == 0) = false := by simpa using e2
                  have V : Hid (isOp 2 i j t rows = true) := by show isOp 2 i j t rows = true; rw [EH.out]; simp [e1]
                  clear e1 e2
                  go_enter Try.func143, Try.ntmps143
                  go_wp2_with (first | (go_at_call 70; refine (sIn_t _ _ _ _ (by omega) (by omega)).mono ?_; rintro e w' ⟨rfl, rfl⟩) | (go_at_call 105; refine (sIsNum_t _ _ t1 t2).mono ?_; rintro e w' ⟨rfl, rfl⟩))
                  go_ret
                  exact FIN.out _ _ rfl V.out
          · have V : Hid (isOp k i j t rows = false) := by show isOp k i j t rows = false; unfold isOp rangeOp; rw [decide_eq_false h5]; simp
            have hx : t < -400000000 ∨ 400000000 < t := by unfold NumP at h5; omega
            clear h5
            go_enter Try.func143, Try.ntmps143
            go_wp2_with fail
            refine (sIn_t k 0 2 _ h1.1 h1.2).mono ?_
            rintro e w' ⟨rfl, rfl⟩
            go_wp2_with fail
            refine (sIn_t rows 0 24 _ h2.1 h2.2).mono ?_
            rintro e w' ⟨rfl, rfl⟩
            go_wp2_with fail
            refine (sIn_t i 0 (rows - 1) _ h3.1 h3.2).mono ?_
            rintro e w' ⟨rfl, rfl⟩
            go_wp2_with fail
            refine (sIn_t j 0 (rows - 1) _ h4.1 h4.2).mono ?_
            rintro e w' ⟨rfl, rfl⟩
            go_wp2_with fail
            refine (sIsNum_f t _ hx).mono ?_
            rintro e w' ⟨rfl, rfl⟩
            go_wp2_with fail
            go_ret
            exact FIN.out _ _ rfl V.out
        · have V : Hid (isOp k i j t rows = false) := by show isOp k i j t rows = false; unfold isOp rangeOp; rw [decide_eq_false h4]; simp
          have hx : j < 0 ∨ (rows - 1) < j := by omega
          clear h4
          go_enter Try.func143, Try.ntmps143
          go_wp2_with fail
          refine (sIn_t k 0 2 _ h1.1 h1.2).mono ?_
          rintro e w' ⟨rfl, rfl⟩
          go_wp2_with fail
          refine (sIn_t rows 0 24 _ h2.1 h2.2).mono ?_
          rintro e w' ⟨rfl, rfl⟩
          go_wp2_with fail
          refine (sIn_t i 0 (rows - 1) _ h3.1 h3.2).mono ?_
          rintro e w' ⟨rfl, rfl⟩
          go_wp2_with fail
          refine (sIn_f j 0 (rows - 1) _ hx).mono ?_
          rintro e w' ⟨rfl, rfl⟩
          go_wp2_with fail
          go_ret
          exact FIN.out _ _ rfl V.out
      · have V : Hid (isOp k i j t rows = false) := by show isOp k i j t rows = false; unfold isOp rangeOp; rw [decide_eq_false h3]; simp
        have hx : i < 0 ∨ (rows - 1) < i := by omega
        clear h3
        go_enter Try.func143, Try.ntmps143
        go_wp2_with fail
        refine (sIn_t k 0 2 _ h1.1 h1.2).mono ?_
        rintro e w' ⟨rfl, rfl⟩
        go_wp2_with fail
        refine (sIn_t rows 0 24 _ h2.1 h2.2).mono ?_
        rintro e w' ⟨rfl, rfl⟩
        go_wp2_with fail
        refine (sIn_f i 0 (rows - 1) _ hx).mono ?_
        rintro e w' ⟨rfl, rfl⟩
        go_wp2_with fail
        go_ret
        exact FIN.out _ _ rfl V.out
    · have V : Hid (isOp k i j t rows = false) := by show isOp k i j t rows = false; unfold isOp rangeOp; rw [decide_eq_false h2]; simp
      have hx : rows < 0 ∨ 24 < rows := by omega
      clear h2
      go_enter Try.func143, Try.ntmps143
      go_wp2_with fail
      refine (sIn_t k 0 2 _ h1.1 h1.2).mono ?_
      rintro e w' ⟨rfl, rfl⟩
      go_wp2_with fail
      refine (sIn_f rows 0 24 _ hx).mono ?_
      rintro e w' ⟨rfl, rfl⟩
      go_wp2_with fail
      go_ret
      exact FIN.out _ _ rfl V.out
  · have V : Hid (isOp k i j t rows = false) := by show isOp k i j t rows = false; unfold isOp rangeOp; rw [decide_eq_false h1]; simp
    have hx : k < 0 ∨ 2 < k := by omega
    clear h1
    go_enter Try.func143, Try.ntmps143
    go_wp2_with fail
    refine (sIn_f k 0 2 _ hx).mono ?_
    rintro e w' ⟨rfl, rfl⟩
    go_wp2_with fail
    go_ret
    exact FIN.out _ _ rfl V.out
end Go.Proofs.Ytpelnfenfeoeeaa
