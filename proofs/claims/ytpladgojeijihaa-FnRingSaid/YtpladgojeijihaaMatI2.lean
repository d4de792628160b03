/-
  Chapter 3, in the program: a matrix that is handed on if it is valid; CellOf.
-/
import Derived.Test.YtpladgojeijihaaMatI
import Derived.Test.YtpladgojeijihaaMatS2
namespace Go.Proofs.Ytpladgojeijihaa
open Go.RowKit

set_option maxHeartbeats 400000 in
theorem iDone (r c : Int) (a : Option Addr) (cap : Nat) (zs : List Int) (w : World) (h : Rd w a zs) (hn : zs.length ≤ 16777216) :
    Calls Try.prog 56 #[.agg #[.int .i64 r, .int .i64 c, .slice a zs.length cap]] w (Gives (DoneRes r c (.slice a zs.length cap) (isMat r c zs)) w) := by
  have H := Lib.hid h
  clear h
  go_enter Try.func56, Try.ntmps56
  go_wp2_with fail
  refine (iIsMat r c a cap zs _ (H.out.below (((Below.refl _ _).alloc (Nat.le_refl _) _).alloc (by simp) _)) hn).mono ?_
  rintro e w1 ⟨rfl, hb⟩
  have K0 : Hid (Blk3 w1 w.heap.size 26 (.int .i64 r) (.int .i64 c) (.slice a zs.length cap)) := ((Blk3.at_ _ _ _ _ rfl).old _).keep hb (by simp <;> omega)
  have K1 : Hid (Blk3 w1 (w.heap.size + 1) 26 (.int .i64 0) (.int .i64 0) (.slice none 0 0)) := (Blk3.at_ _ _ _ _ (by simp)).keep hb (by simp)
  have B : Hid (Below w.heap.size w w1) := (((Below.refl _ _).alloc (Nat.le_refl _) _).alloc (by simp) _).trans (hb.mono (by simp <;> omega))
  clear hb
  obtain ⟨c0, c1, c2, -, -, -⟩ := K0.out.all
  obtain ⟨d0, d1, d2, g0, g1, g2⟩ := K1.out.all
  have BB : ∀ x y z, Below w.heap.size w (((w1.setCell ⟨w.heap.size + 1, 0, none⟩ x).setCell ⟨w.heap.size + 1, 1, none⟩ y).setCell ⟨w.heap.size + 1, 2, none⟩ z) := fun x y z =>
    ((B.out.setCell (Nat.le_succ _) _).setCell (Nat.le_succ _) _).setCell (Nat.le_succ _) _
  have BH := Lib.hid BB
  clear BB
  rcases Bool.eq_false_or_eq_true (isMat r c zs) with hm | hm
  · rw [hm]
    have M := Lib.hid hm
    clear hm
    go_wp2_with fail
    obtain ⟨E0, E1, E2, -, -, -⟩ := (((K1.out.set0 (.int .i64 r)).set1 (.int .i64 c)).set2 (.slice a zs.length cap)).all
    exact bodyPost_ret (v := .tuple #[.agg #[.int .i64 r, .int .i64 c, .slice a zs.length cap], .bool true]) (by simp [results, Try.results56, go_sem, E0, E1, E2]) rfl ⟨by rw [M.out]; rfl, BH.out _ _ _⟩
  · rw [hm]
    have M := Lib.hid hm
    clear hm
    go_wp2_with fail
    obtain ⟨E0, E1, E2, -, -, -⟩ := (((K1.out.set0 (.int .i64 0)).set1 (.int .i64 0)).set2 (.slice none 0 0)).all
    exact bodyPost_ret (v := .tuple #[.agg #[.int .i64 0, .int .i64 0, .slice none 0 0], .bool false]) (by simp [results, Try.results56, go_sem, E0, E1, E2]) rfl ⟨by rw [M.out]; rfl, BH.out _ _ _⟩

set_option maxHeartbeats 400000 in
theorem iCellOf (r c : Int) (a : Option Addr) (cap : Nat) (zs : List Int) (i j : Int) (w : World) (h : Rd w a zs) (hn : zs.length ≤ 16777216) :
    Calls Try.prog 35 #[.agg #[.int .i64 r, .int .i64 c, .slice a zs.length cap], .int .i64 i, .int .i64 j] w (Gives (.int .i64 (cellOf r c zs i j)) w) := by
  have H := Lib.hid h
  clear h
  have start : Calls Try.prog 28 #[.agg #[.int .i64 r, .int .i64 c, .slice a zs.length cap]] (w.alloc (.cells #[.int .i64 r, .int .i64 c, .slice a zs.length cap] 26)) (Gives (.bool (isMat r c zs)) _) :=
    iIsMat r c a cap zs _ (H.out.below ((Below.refl _ _).alloc (Nat.le_refl _) _)) hn
  have ST := Lib.hid start
  clear start
  rcases Bool.eq_false_or_eq_true (isMat r c zs) with hm | hm
  · obtain ⟨hr, hc, hl, hnum⟩ := isMat_says hm
    by_cases hi : 0 ≤ i ∧ i ≤ r - 1
    · by_cases hj : 0 ≤ j ∧ j ≤ c - 1
      · -- the cell
        have p1 := mul_size i c (by omega) hc
        have p2 : i * c + j < r * c := by
          have : i * c + c ≤ r * c := by
            have := Int.mul_le_mul_of_nonneg_right (show i + 1 ≤ r by omega) (show 0 ≤ c by omega)
            rw [Int.add_mul, Int.one_mul] at this; exact this
          omega
        obtain ⟨k, hk⟩ := Int.eq_ofNat_of_zero_le (show 0 ≤ i * c + j by omega)
        have hkn : k < zs.length := by omega
        have E : Hid (cellOf r c zs i j = zs.getD k 0) := by
          show cellOf r c zs i j = _
          unfold cellOf
          rw [hm, decide_eq_true hi, decide_eq_true hj, hk]; rfl
        have HK := Lib.hid hk
        obtain ⟨p3, p4⟩ := p1
        obtain ⟨z, hz⟩ : ∃ z, zs.getD k 0 = z := ⟨_, rfl⟩
        have Z := Lib.hid hz
        have kn : (k : Int) < zs.length := by omega
        have p5 : 0 ≤ i * c + j := by omega
        have p6 : i * c + j ≤ 600 := by omega
        have M := Lib.hid hm
        have kt : (i * c + j).toNat = k := by omega
        have p7 : i * c + j < (zs.length : Int) := by omega
        have t1 : decide (i < 0) = false := by simp; omega
        have t2 : decide (r ≤ i) = false := by simp; omega
        have t3 : decide (j < 0) = false := by simp; omega
        have t4 : decide (c ≤ j) = false := by simp; omega
        clear hk hz hm hl hnum p2
        go_enter Try.func35, Try.ntmps35
        go_wp2_with fail
        refine (ST.out).mono ?_
        rintro e w1 ⟨rfl, hb⟩
        have K0 : Hid (Blk3 w1 w.heap.size 26 (.int .i64 r) (.int .i64 c) (.slice a zs.length cap)) := (Blk3.at_ _ _ _ _ rfl).keep hb (by simp)
        have B : Hid (Below w.heap.size w w1) := ((Below.refl _ _).alloc (Nat.le_refl _) _).trans (hb.mono (by simp))
        clear hb
        obtain ⟨c0, c1, c2, -, -, -⟩ := K0.out.all
        obtain ⟨b, o, rfl, hcell⟩ := (H.out.below B.out) k hkn
        rw [Z.out] at hcell
        rw [M.out]
        go_wp2_with fail
        go_ret
        exact ⟨by rw [E.out, Z.out]; rfl, B.out⟩
      · have E : Hid (cellOf r c zs i j = 0) := by
          show cellOf r c zs i j = _
          unfold cellOf
          rw [hm, decide_eq_false hj]; simp
        have M := Lib.hid hm
        have t1 : decide (i < 0) = false := by simp; omega
        have t2 : decide (r ≤ i) = false := by simp; omega
        have hj' : j < 0 ∨ c ≤ j := by omega
        clear hm hl hnum hj
        rcases Bool.eq_false_or_eq_true (decide (j < 0)) with t3 | t3
        rotate_left
        have t4 : decide (c ≤ j) = true := by simp; simp at t3; omega
        all_goals clear hj'
        all_goals
          go_enter Try.func35, Try.ntmps35
          go_wp2_with fail
          refine (ST.out).mono ?_
          rintro e w1 ⟨rfl, hb⟩
          have K0 : Hid (Blk3 w1 w.heap.size 26 (.int .i64 r) (.int .i64 c) (.slice a zs.length cap)) := (Blk3.at_ _ _ _ _ rfl).keep hb (by simp)
          have B : Hid (Below w.heap.size w w1) := ((Below.refl _ _).alloc (Nat.le_refl _) _).trans (hb.mono (by simp))
          clear hb
          obtain ⟨c0, c1, c2, -, -, -⟩ := K0.out.all
          rw [M.out]
          go_wp2_with fail
          go_ret
          exact ⟨by rw [E.out]; rfl, B.out⟩
    · have E : Hid (cellOf r c zs i j = 0) := by
        show cellOf r c zs i j = _
        unfold cellOf
        rw [hm, decide_eq_false hi]; simp
      have M := Lib.hid hm
      have hi' : i < 0 ∨ r ≤ i := by omega
      clear hm hl hnum hi
      rcases Bool.eq_false_or_eq_true (decide (i < 0)) with t3 | t3
      rotate_left
      have t4 : decide (r ≤ i) = true := by simp; simp at t3; omega
      all_goals clear hi'
      all_goals
        go_enter Try.func35, Try.ntmps35
        go_wp2_with fail
        refine (ST.out).mono ?_
        rintro e w1 ⟨rfl, hb⟩
        have K0 : Hid (Blk3 w1 w.heap.size 26 (.int .i64 r) (.int .i64 c) (.slice a zs.length cap)) := (Blk3.at_ _ _ _ _ rfl).keep hb (by simp)
        have B : Hid (Below w.heap.size w w1) := ((Below.refl _ _).alloc (Nat.le_refl _) _).trans (hb.mono (by simp))
        clear hb
        obtain ⟨c0, c1, c2, -, -, -⟩ := K0.out.all
        rw [M.out]
        go_wp2_with fail
        go_ret
        exact ⟨by rw [E.out]; rfl, B.out⟩
  · have E : Hid (cellOf r c zs i j = 0) := by
      show cellOf r c zs i j = _
      unfold cellOf
      rw [hm]; simp
    have M := Lib.hid hm
    clear hm
    go_enter Try.func35, Try.ntmps35
    go_wp2_with fail
    refine (ST.out).mono ?_
    rintro e w1 ⟨rfl, hb⟩
    have K0 : Hid (Blk3 w1 w.heap.size 26 (.int .i64 r) (.int .i64 c) (.slice a zs.length cap)) := (Blk3.at_ _ _ _ _ rfl).keep hb (by simp)
    have B : Hid (Below w.heap.size w w1) := ((Below.refl _ _).alloc (Nat.le_refl _) _).trans (hb.mono (by simp))
    clear hb
    obtain ⟨c0, c1, c2, -, -, -⟩ := K0.out.all
    rw [M.out]
    go_wp2_with fail
    go_ret
    exact ⟨by rw [E.out]; rfl, B.out⟩

end Go.Proofs.Ytpladgojeijihaa
