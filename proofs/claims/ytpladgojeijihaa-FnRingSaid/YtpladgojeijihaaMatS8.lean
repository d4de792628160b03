/-
  Chapter 3, in the model: TransposeOf, ScaleMatrix.
-/
import Derived.Test.YtpladgojeijihaaMatS5
namespace Go.Proofs.Ytpladgojeijihaa
open Go.RowKit

def turnM (r c : Int) (xs : List Int) : MR := if isMat r c xs = true then ⟨true, c, r, turnL r.toNat c.toNat xs⟩ else MR.no
theorem sTurn_t (R C : Nat) (a : Option Addr) (m : Nat) (xs : List Int) (w : World) (h : Rd w a xs) (hn : xs.length ≤ 16777216) (hm : isMat R C xs = true) :
    Calls Try.prog 38 #[.agg #[.int .i64 R, .int .i64 C, .slice a xs.length m]] w (MatRes ⟨true, C, R, turnL R C xs⟩ w) := by
  obtain ⟨⟨r1, r2⟩, ⟨c1, c2⟩, l1, -⟩ := isMat_says hm
  rw [← Int.natCast_mul] at l1
  have hle : C * R ≤ 24 * 24 := Nat.mul_le_mul (by omega) (by omega)
  have hl1 : xs.length = R * C := by omega
  have HL1 := Lib.hid hl1
  have M := Lib.hid hm
  clear l1 hl1 hm
  have B0 : ∀ o1 o2, Below w.heap.size w ((w.alloc o1).alloc o2) := fun o1 o2 => ((Below.refl _ _).alloc (Nat.le_refl _) _).alloc (by simp) _
  have BH := Lib.hid B0
  have H := Lib.hid h
  clear B0 h
  go_enter Try.func38, Try.ntmps38
  go_wp2_with fail
  refine (sIsMat R C a m xs _ (H.out.below (BH.out (.cells #[.int .i64 R, .int .i64 C, .slice a xs.length m] 26) (.cells #[.int .i64 0, .int .i64 0, .slice none 0 0] 26))) hn).mono ?_
  rintro e w1 ⟨rfl, hb⟩
  have K0 : Hid (Blk3 w1 w.heap.size 26 (.int .i64 R) (.int .i64 C) (.slice a xs.length m)) := ((Blk3.at_ _ _ _ _ rfl).old _).keep hb (by simp <;> omega)
  have K2 : Hid (Blk3 w1 (w.heap.size + 1) 26 (.int .i64 0) (.int .i64 0) (.slice none 0 0)) := (Blk3.at_ _ _ _ _ (by simp)).keep hb (by simp)
  have B : Hid (Below w.heap.size w w1) := (BH.out _ _).trans (hb.mono (by simp <;> omega))
  clear hb
  obtain ⟨ca0, ca1, ca2, -, -, -⟩ := K0.out.all
  obtain ⟨cc0, cc1, cc2, ff0, ff1, ff2⟩ := K2.out.all
  rw [M.out]
  go_wp2_with fail
  refine (sTurn R C a m xs _ (H.out.below B.out) (by omega) (by omega) HL1.out).mono ?_
  rintro e w3 ⟨g, rfl, hg, hi, hb⟩
  have l2 := Nat.lt_of_lt_of_le K2.out.lt hg
  obtain ⟨k, hk⟩ : ∃ k, (turnL R C xs).length = k := ⟨_, rfl⟩
  have HL := Lib.hid hk
  have kle : k ≤ 576 := by rw [← hk]; unfold turnL; rw [tab_length]; exact hle
  rw [hk]
  have K2 := Lib.hid (K2.out.keep hb K2.out.lt)
  have I2 := Lib.hid hi
  have B := Lib.hid (B.out.trans (hb.mono B.out.size))
  clear hb hi hk hg
  obtain ⟨s0, s1, s2, t0, t1, t2⟩ := K2.out.all
  go_wp2_with fail
  obtain ⟨E0, E1, E2, -, -, -⟩ := (((K2.out.set0 (.int .i64 C)).set1 (.int .i64 R)).set2 (.slice (some ⟨g, 0, none⟩) k k)).all
  refine bodyPost_ret (v := .tuple #[.agg #[.int .i64 C, .int .i64 R, .slice (some ⟨g, 0, none⟩) k k], .bool true]) (by simp [results, Try.results38, go_sem, E0, E1, E2]) rfl ⟨_, rfl, ?_, ?_⟩
  · refine .inr ⟨g, k, by rw [HL.out], by omega, ?_, by simp [HL.out], by simp [HL.out]; omega⟩
    exact ((I2.out.far (by show g ≠ w.heap.size + 1; omega) _).far (by show g ≠ w.heap.size + 1; omega) _).far (by show g ≠ w.heap.size + 1; omega) _
  · exact ((B.out.setCell (Nat.le_succ _) _).setCell (Nat.le_succ _) _).setCell (Nat.le_succ _) _
theorem sTransp (r c : Int) (a : Option Addr) (m : Nat) (xs : List Int) (w : World) (h : Rd w a xs) (hn : xs.length ≤ 16777216) :
    Calls Try.prog 38 #[.agg #[.int .i64 r, .int .i64 c, .slice a xs.length m]] w (MatRes (turnM r c xs) w) := by
  rcases Bool.eq_false_or_eq_true (isMat r c xs) with hm | hm
  · obtain ⟨⟨r1, r2⟩, ⟨c1, c2⟩, -, -⟩ := isMat_says hm
    obtain ⟨R, rfl⟩ := Int.eq_ofNat_of_zero_le r1
    obtain ⟨C, rfl⟩ := Int.eq_ofNat_of_zero_le c1
    have E : turnM R C xs = ⟨true, C, R, turnL R C xs⟩ := by unfold turnM; rw [hm]; simp
    rw [E]
    exact sTurn_t R C a m xs w h hn hm
  · have E : Hid (turnM r c xs = MR.no) := by show turnM r c xs = _; unfold turnM; rw [hm]; rfl
    have M := Lib.hid hm
    clear hm
    have B0 : ∀ o1 o2, Below w.heap.size w ((w.alloc o1).alloc o2) := fun o1 o2 => ((Below.refl _ _).alloc (Nat.le_refl _) _).alloc (by simp) _
    have BH := Lib.hid B0
    have H := Lib.hid h
    clear B0 h
    go_enter Try.func38, Try.ntmps38
    go_wp2_with fail
    refine (sIsMat r c a m xs _ (H.out.below (BH.out (.cells #[.int .i64 r, .int .i64 c, .slice a xs.length m] 26) (.cells #[.int .i64 0, .int .i64 0, .slice none 0 0] 26))) hn).mono ?_
    rintro e w1 ⟨rfl, hb⟩
    have K0 : Hid (Blk3 w1 w.heap.size 26 (.int .i64 r) (.int .i64 c) (.slice a xs.length m)) := ((Blk3.at_ _ _ _ _ rfl).old _).keep hb (by simp <;> omega)
    have K2 : Hid (Blk3 w1 (w.heap.size + 1) 26 (.int .i64 0) (.int .i64 0) (.slice none 0 0)) := (Blk3.at_ _ _ _ _ (by simp)).keep hb (by simp)
    have B : Hid (Below w.heap.size w w1) := (BH.out _ _).trans (hb.mono (by simp <;> omega))
    clear hb
    obtain ⟨ca0, ca1, ca2, -, -, -⟩ := K0.out.all
    obtain ⟨cc0, cc1, cc2, ff0, ff1, ff2⟩ := K2.out.all
    rw [M.out]
    go_wp2_with fail
    obtain ⟨E0, E1, E2, -, -, -⟩ := (((K2.out.set0 (.int .i64 0)).set1 (.int .i64 0)).set2 (.slice none 0 0)).all
    rw [E.out]
    exact bodyPost_ret (v := .tuple #[.agg #[.int .i64 0, .int .i64 0, .slice none 0 0], .bool false]) (by simp [results, Try.results38, go_sem, E0, E1, E2]) rfl ⟨_, rfl, .inl ⟨rfl, rfl⟩, ((B.out.setCell (Nat.le_succ _) _).setCell (Nat.le_succ _) _).setCell (Nat.le_succ _) _⟩

theorem sScale (r c : Int) (a : Option Addr) (m : Nat) (xs : List Int) (q : Int) (w : World) (h : Rd w a xs) (hn : xs.length ≤ 16777216) :
    Calls Try.prog 37 #[.agg #[.int .i64 r, .int .i64 c, .slice a xs.length m], .int .i64 q] w (MatRes (scaleM r c xs q) w) := by
  rcases Bool.eq_false_or_eq_true (isMat r c xs) with hm | hm
  · by_cases hq : -400000000 ≤ q ∧ q ≤ 400000000
    · obtain ⟨⟨r1, r2⟩, ⟨c1, c2⟩, l1, -⟩ := isMat_says hm
      obtain ⟨R, rfl⟩ := Int.eq_ofNat_of_zero_le r1
      obtain ⟨C, rfl⟩ := Int.eq_ofNat_of_zero_le c1
      rw [← Int.natCast_mul] at l1
      have E : scaleM R C xs q = MR.done R C (scaleL xs q) := by unfold scaleM; rw [hm, show decide (NumP q) = true from decide_eq_true hq]; simp
      rw [E]
      exact sScale_t R C a m xs q w h (by omega) (by omega) (by omega) hm hq
    · have E : Hid (scaleM r c xs q = MR.no) := by show scaleM r c xs q = _; unfold scaleM; rw [hm, show decide (NumP q) = false from decide_eq_false hq]; simp
      have M := Lib.hid hm
      have hq' : q < -400000000 ∨ 400000000 < q := by omega
      clear hm hq
      have B0 : ∀ o1 o2, Below w.heap.size w ((w.alloc o1).alloc o2) := fun o1 o2 => ((Below.refl _ _).alloc (Nat.le_refl _) _).alloc (by simp) _
      have BH := Lib.hid B0
      have H := Lib.hid h
      clear B0 h
      go_enter Try.func37, Try.ntmps37
      go_wp2_with fail
      refine (sIsMat r c a m xs _ (H.out.below (BH.out (.cells #[.int .i64 r, .int .i64 c, .slice a xs.length m] 26) (.cells #[.int .i64 0, .int .i64 0, .slice none 0 0] 26))) hn).mono ?_
      rintro e w1 ⟨rfl, hb⟩
      have K0 : Hid (Blk3 w1 w.heap.size 26 (.int .i64 r) (.int .i64 c) (.slice a xs.length m)) := ((Blk3.at_ _ _ _ _ rfl).old _).keep hb (by simp <;> omega)
      have K2 : Hid (Blk3 w1 (w.heap.size + 1) 26 (.int .i64 0) (.int .i64 0) (.slice none 0 0)) := (Blk3.at_ _ _ _ _ (by simp)).keep hb (by simp)
      have B : Hid (Below w.heap.size w w1) := (BH.out _ _).trans (hb.mono (by simp <;> omega))
      clear hb
      obtain ⟨ca0, ca1, ca2, -, -, -⟩ := K0.out.all
      obtain ⟨cc0, cc1, cc2, ff0, ff1, ff2⟩ := K2.out.all
      rw [M.out]
      go_wp2_with fail
      refine (sIsNum_f q _ hq').mono ?_
      rintro e w2 ⟨rfl, rfl⟩
      go_wp2_with fail
      obtain ⟨E0, E1, E2, -, -, -⟩ := (((K2.out.set0 (.int .i64 0)).set1 (.int .i64 0)).set2 (.slice none 0 0)).all
      rw [E.out]
      exact bodyPost_ret (v := .tuple #[.agg #[.int .i64 0, .int .i64 0, .slice none 0 0], .bool false]) (by simp [results, Try.results37, go_sem, E0, E1, E2]) rfl ⟨_, rfl, .inl ⟨rfl, rfl⟩, ((B.out.setCell (Nat.le_succ _) _).setCell (Nat.le_succ _) _).setCell (Nat.le_succ _) _⟩
  · have E : Hid (scaleM r c xs q = MR.no) := by show scaleM r c xs q = _; unfold scaleM; rw [hm]; simp
    have M := Lib.hid hm
    clear hm
    have B0 : ∀ o1 o2, Below w.heap.size w ((w.alloc o1).alloc o2) := fun o1 o2 => ((Below.refl _ _).alloc (Nat.le_refl _) _).alloc (by simp) _
    have BH := Lib.hid B0
    have H := Lib.hid h
    clear B0 h
    go_enter Try.func37, Try.ntmps37
    go_wp2_with fail
    refine (sIsMat r c a m xs _ (H.out.below (BH.out (.cells #[.int .i64 r, .int .i64 c, .slice a xs.length m] 26) (.cells #[.int .i64 0, .int .i64 0, .slice none 0 0] 26))) hn).mono ?_
    rintro e w1 ⟨rfl, hb⟩
    have K0 : Hid (Blk3 w1 w.heap.size 26 (.int .i64 r) (.int .i64 c) (.slice a xs.length m)) := ((Blk3.at_ _ _ _ _ rfl).old _).keep hb (by simp <;> omega)
    have K2 : Hid (Blk3 w1 (w.heap.size + 1) 26 (.int .i64 0) (.int .i64 0) (.slice none 0 0)) := (Blk3.at_ _ _ _ _ (by simp)).keep hb (by simp)
    have B : Hid (Below w.heap.size w w1) := (BH.out _ _).trans (hb.mono (by simp <;> omega))
    clear hb
    obtain ⟨ca0, ca1, ca2, -, -, -⟩ := K0.out.all
    obtain ⟨cc0, cc1, cc2, ff0, ff1, ff2⟩ := K2.out.all
    rw [M.out]
    go_wp2_with fail
    obtain ⟨E0, E1, E2, -, -, -⟩ := (((K2.out.set0 (.int .i64 0)).set1 (.int .i64 0)).set2 (.slice none 0 0)).all
    rw [E.out]
    exact bodyPost_ret (v := .tuple #[.agg #[.int .i64 0, .int .i64 0, .slice none 0 0], .bool false]) (by simp [results, Try.results37, go_sem, E0, E1, E2]) rfl ⟨_, rfl, .inl ⟨rfl, rfl⟩, ((B.out.setCell (Nat.le_succ _) _).setCell (Nat.le_succ _) _).setCell (Nat.le_succ _) _⟩
end Go.Proofs.Ytpladgojeijihaa
