/-
  Chapter 5, in the program: IsRowOp.
-/
import Derived.Test.YtiggioccmlbhhaaRI1
namespace Go.Proofs.Ytiggioccmlbhhaa
open Go.RowKit

theorem cell_new (w : World) (v : Value) (t : TypeId) (pb : Nat) (h : pb = w.heap.size) : (w.alloc (.cells #[v] t)).cell? ⟨pb, 0, none⟩ = some v := by
  subst h
  have e : (w.alloc (.cells #[v] t)).heap[w.heap.size]? = some (.cells #[v] t (0, 0)) := by show (w.heap.push _)[w.heap.size]? = _; rw [Array.getElem?_push, if_pos rfl]
  generalize w.alloc (.cells #[v] t) = w' at e
  simp [World.cell?, e]
theorem iRow_t (n rows : Int) (pb : Nat) (w : World) (hc : w.cell? ⟨pb, 0, none⟩ = some (.int .i64 rows)) (h : 0 ≤ n ∧ n < rows) : Calls Try.prog 70 #[.int .i64 n, .pointer (some ⟨pb, 0, none⟩)] w fun e w' => e = .returned (.bool true) ∧ w = w' := by
  have := iRow n rows pb w hc; rwa [decide_eq_true h] at this
theorem iRow_f (n rows : Int) (pb : Nat) (w : World) (hc : w.cell? ⟨pb, 0, none⟩ = some (.int .i64 rows)) (h : n < 0 ∨ rows ≤ n) : Calls Try.prog 70 #[.int .i64 n, .pointer (some ⟨pb, 0, none⟩)] w fun e w' => e = .returned (.bool false) ∧ w = w' := by
  have := iRow n rows pb w hc; rwa [decide_eq_false (by omega)] at this
theorem step2 {w a c : World} (h : Below w.heap.size w a) (hb : Below a.heap.size a c) : Below w.heap.size w c := h.trans (hb.mono h.size)
set_option maxHeartbeats 1000000 in
theorem iIsOp (k i j t rows : Int) (w : World) : Calls Try.prog 29 #[.agg #[.int .i64 k, .int .i64 i, .int .i64 j, .int .i64 t], .int .i64 rows] w (Gives (.bool (isOp k i j t rows)) w) := by
  have BH : Hid (∀ o o2, Below w.heap.size w ((w.alloc o).alloc o2)) := fun o o2 => ((Below.refl _ _).alloc (Nat.le_refl _) o).alloc (by simp) o2
  have CN : Hid (∀ o, ((w.alloc o).alloc (.cells #[.int .i64 rows] 3)).cell? ⟨w.heap.size + 1, 0, none⟩ = some (.int .i64 rows)) := fun o => cell_new _ _ _ _ (by simp)
  by_cases h2 : 0 ≤ rows ∧ rows ≤ 24
  · by_cases h3 : 0 ≤ i ∧ i < rows
    · by_cases h4 : 0 ≤ j ∧ j < rows
      · by_cases h5 : NumP t
        · have RG : Hid (rangeOp k i j t rows = (decide (0 ≤ k ∧ k ≤ 2))) := by show rangeOp k i j t rows = _; unfold rangeOp; rw [decide_eq_true h2, decide_eq_true (show 0 ≤ i ∧ i ≤ rows - 1 by omega), decide_eq_true (show 0 ≤ j ∧ j ≤ rows - 1 by omega), decide_eq_true h5]; simp only [Bool.and_true]
          by_cases k0 : k = 0
          · subst k0
            have V : Hid (isOp 0 i j t rows = decide (j ≠ i ∧ t = 0)) := by show isOp 0 i j t rows = _; unfold isOp; rw [RG.out]; rfl
            obtain ⟨b, hbb⟩ : ∃ b, decide (j ≠ i ∧ t = 0) = b := ⟨_, rfl⟩
            have FT := Lib.hid (iFit0 i j t)
            rw [hbb] at V
            have FT : Hid (∀ w, Calls Try.prog 102 #[aggO 0 i j t] w (Gives (.bool b) w)) := fun w => by rw [← hbb]; exact FT.out w
            clear hbb
            go_enter Try.func29, Try.ntmps29
            go_wp2_with fail
            refine (iSize_t rows _ h2.1 h2.2).mono ?_
            rintro e w' ⟨rfl, rfl⟩
            go_wp2_with fail
            refine (iRow_t i rows _ _ (CN.out _) h3).mono ?_
            rintro e w' ⟨rfl, rfl⟩
            go_wp2_with fail
            refine (iRow_t j rows _ _ (CN.out _) h4).mono ?_
            rintro e w' ⟨rfl, rfl⟩
            go_wp2_with fail
            refine (iIsNum_t t _ h5.1 h5.2).mono ?_
            rintro e w' ⟨rfl, rfl⟩
            go_wp2_with fail
            refine (iOpOf0 i j t _).mono ?_
            rintro e w1 ⟨rfl, hb⟩
            have B : Hid (Below w.heap.size w w1) := step2 (BH.out _ _) hb
            clear hb
            go_wp2_with fail
            refine (FT.out _).mono ?_
            rintro e w2 ⟨rfl, hb⟩
            have B2 : Hid (Below w.heap.size w w2) := step2 B.out hb
            clear hb
            go_wp2_with fail
            go_ret
            exact ⟨by rw [V.out]; rfl, B2.out⟩
          by_cases k1 : k = 1
          · subst k1
            have V : Hid (isOp 1 i j t rows = decide (j = i ∧ t = 0)) := by show isOp 1 i j t rows = _; unfold isOp; rw [RG.out]; rfl
            obtain ⟨b, hbb⟩ : ∃ b, decide (j = i ∧ t = 0) = b := ⟨_, rfl⟩
            have FT := Lib.hid (iFit1 i j t)
            rw [hbb] at V
            have FT : Hid (∀ w, Calls Try.prog 104 #[aggO 1 i j t] w (Gives (.bool b) w)) := fun w => by rw [← hbb]; exact FT.out w
            clear hbb
            go_enter Try.func29, Try.ntmps29
            go_wp2_with fail
            refine (iSize_t rows _ h2.1 h2.2).mono ?_
            rintro e w' ⟨rfl, rfl⟩
            go_wp2_with fail
            refine (iRow_t i rows _ _ (CN.out _) h3).mono ?_
            rintro e w' ⟨rfl, rfl⟩
            go_wp2_with fail
            refine (iRow_t j rows _ _ (CN.out _) h4).mono ?_
            rintro e w' ⟨rfl, rfl⟩
            go_wp2_with fail
            refine (iIsNum_t t _ h5.1 h5.2).mono ?_
            rintro e w' ⟨rfl, rfl⟩
            go_wp2_with fail
            refine (iOpOf1 i j t _).mono ?_
            rintro e w1 ⟨rfl, hb⟩
            have B : Hid (Below w.heap.size w w1) := step2 (BH.out _ _) hb
            clear hb
            go_wp2_with fail
            refine (FT.out _).mono ?_
            rintro e w2 ⟨rfl, hb⟩
            have B2 : Hid (Below w.heap.size w w2) := step2 B.out hb
            clear hb
            go_wp2_with fail
            go_ret
            exact ⟨by rw [V.out]; rfl, B2.out⟩
          by_cases k2 : k = 2
          · subst k2
            have V : Hid (isOp 2 i j t rows = decide (j ≠ i)) := by show isOp 2 i j t rows = _; unfold isOp; rw [RG.out]; rfl
            obtain ⟨b, hbb⟩ : ∃ b, decide (j ≠ i) = b := ⟨_, rfl⟩
            have FT := Lib.hid (iFit2 i j t)
            rw [hbb] at V
            have FT : Hid (∀ w, Calls Try.prog 106 #[aggO 2 i j t] w (Gives (.bool b) w)) := fun w => by rw [← hbb]; exact FT.out w
            clear hbb
            go_enter Try.func29, Try.ntmps29
            go_wp2_with fail
            refine (iSize_t rows _ h2.1 h2.2).mono ?_
            rintro e w' ⟨rfl, rfl⟩
            go_wp2_with fail
            refine (iRow_t i rows _ _ (CN.out _) h3).mono ?_
            rintro e w' ⟨rfl, rfl⟩
            go_wp2_with fail
            refine (iRow_t j rows _ _ (CN.out _) h4).mono ?_
            rintro e w' ⟨rfl, rfl⟩
            go_wp2_with fail
            refine (iIsNum_t t _ h5.1 h5.2).mono ?_
            rintro e w' ⟨rfl, rfl⟩
            go_wp2_with fail
            refine (iOpOf2 i j t _).mono ?_
            rintro e w1 ⟨rfl, hb⟩
            have B : Hid (Below w.heap.size w w1) := step2 (BH.out _ _) hb
            clear hb
            go_wp2_with fail
            refine (FT.out _).mono ?_
            rintro e w2 ⟨rfl, hb⟩
            have B2 : Hid (Below w.heap.size w w2) := step2 B.out hb
            clear hb
            go_wp2_with fail
            go_ret
            exact ⟨by rw [V.out]; rfl, B2.out⟩
          have V : Hid (isOp k i j t rows = false) := by show isOp k i j t rows = false; unfold isOp; rw [RG.out, decide_eq_false (by omega)]; rfl
          have hk : k < 0 ∨ 2 < k := by omega
          clear k0 k1 k2
          go_enter Try.func29, Try.ntmps29
          go_wp2_with fail
          refine (iSize_t rows _ h2.1 h2.2).mono ?_
          rintro e w' ⟨rfl, rfl⟩
          go_wp2_with fail
          refine (iRow_t i rows _ _ (CN.out _) h3).mono ?_
          rintro e w' ⟨rfl, rfl⟩
          go_wp2_with fail
          refine (iRow_t j rows _ _ (CN.out _) h4).mono ?_
          rintro e w' ⟨rfl, rfl⟩
          go_wp2_with fail
          refine (iIsNum_t t _ h5.1 h5.2).mono ?_
          rintro e w' ⟨rfl, rfl⟩
          go_wp2_with fail
          refine (iOpOfN k i j t _ hk).mono ?_
          rintro e w1 ⟨rfl, hb⟩
          have B : Hid (Below w.heap.size w w1) := step2 (BH.out _ _) hb
          clear hb
          go_wp2_with fail
          go_ret
          exact ⟨by rw [V.out]; rfl, B.out⟩
        · have V : Hid (isOp k i j t rows = false) := by show isOp k i j t rows = false; unfold isOp rangeOp; rw [decide_eq_false h5]; simp
          have hx : t < -400000000 ∨ 400000000 < t := by unfold NumP at h5; omega
          clear h5
          go_enter Try.func29, Try.ntmps29
          go_wp2_with fail
          refine (iSize_t rows _ h2.1 h2.2).mono ?_
          rintro e w' ⟨rfl, rfl⟩
          go_wp2_with fail
          refine (iRow_t i rows _ _ (CN.out _) h3).mono ?_
          rintro e w' ⟨rfl, rfl⟩
          go_wp2_with fail
          refine (iRow_t j rows _ _ (CN.out _) h4).mono ?_
          rintro e w' ⟨rfl, rfl⟩
          go_wp2_with fail
          refine (iIsNum_f t _ hx).mono ?_
          rintro e w' ⟨rfl, rfl⟩
          go_wp2_with fail
          go_ret
          exact ⟨by rw [V.out]; rfl, BH.out _ _⟩
      · have V : Hid (isOp k i j t rows = false) := by show isOp k i j t rows = false; unfold isOp rangeOp; rw [decide_eq_false (show ¬ (0 ≤ j ∧ j ≤ rows - 1) by omega)]; simp
        have hx : j < 0 ∨ rows ≤ j := by omega
        clear h4
        go_enter Try.func29, Try.ntmps29
        go_wp2_with fail
        refine (iSize_t rows _ h2.1 h2.2).mono ?_
        rintro e w' ⟨rfl, rfl⟩
        go_wp2_with fail
        refine (iRow_t i rows _ _ (CN.out _) h3).mono ?_
        rintro e w' ⟨rfl, rfl⟩
        go_wp2_with fail
        refine (iRow_f j rows _ _ (CN.out _) hx).mono ?_
        rintro e w' ⟨rfl, rfl⟩
        go_wp2_with fail
        go_ret
        exact ⟨by rw [V.out]; rfl, BH.out _ _⟩
    · have V : Hid (isOp k i j t rows = false) := by show isOp k i j t rows = false; unfold isOp rangeOp; rw [decide_eq_false (show ¬ (0 ≤ i ∧ i ≤ rows - 1) by omega)]; simp
      have hx : i < 0 ∨ rows ≤ i := by omega
      clear h3
      go_enter Try.func29, Try.ntmps29
      go_wp2_with fail
      refine (iSize_t rows _ h2.1 h2.2).mono ?_
      rintro e w' ⟨rfl, rfl⟩
      go_wp2_with fail
      refine (iRow_f i rows _ _ (CN.out _) hx).mono ?_
      rintro e w' ⟨rfl, rfl⟩
      go_wp2_with fail
      go_ret
      exact ⟨by rw [V.out]; rfl, BH.out _ _⟩
  · have V : Hid (isOp k i j t rows = false) := by show isOp k i j t rows = false; unfold isOp rangeOp; rw [decide_eq_false h2]; simp
    have hx : rows < 0 ∨ 24 < rows := by omega
    clear h2
    go_enter Try.func29, Try.ntmps29
    go_wp2_with fail
    refine (iSize_f rows _ hx).mono ?_
    rintro e w' ⟨rfl, rfl⟩
    go_wp2_with fail
    go_ret
    exact ⟨by rw [V.out]; rfl, BH.out _ _⟩
end Go.Proofs.Ytiggioccmlbhhaa
