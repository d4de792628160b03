/-
  Chapter 3, in the model: CellOf.
-/
import Derived.Test.YtdnajkoeojlnbaaMatNew
import Derived.Test.YtdnajkoeojlnbaaMatDone
import Derived.Test.YtdnajkoeojlnbaaSameS
namespace Go.Proofs.Ytdnajkoeojlnbaa
open Go.RowKit

/-- CellOf. -/
def cellOf (r c : Int) (zs : List Int) (i j : Int) : Int := if (isMat r c zs && decide (0 ≤ i ∧ i ≤ r - 1) && decide (0 ≤ j ∧ j ≤ c - 1)) = true then zs.getD (i * c + j).toNat 0 else 0

set_option maxHeartbeats 400000 in
theorem sCellOf (r c : Int) (a : Option Addr) (cap : Nat) (zs : List Int) (i j : Int) (w : World) (h : Rd w a zs) (hn : zs.length ≤ 16777216) :
    Calls Try.prog 52 #[.agg #[.int .i64 r, .int .i64 c, .slice a zs.length cap], .int .i64 i, .int .i64 j] w (Gives (.int .i64 (cellOf r c zs i j)) w) := by
  have H := Lib.hid h
  clear h
  have start : Calls Try.prog 55 #[.agg #[.int .i64 r, .int .i64 c, .slice a zs.length cap]] (w.alloc (.cells #[.int .i64 r, .int .i64 c, .slice a zs.length cap] 27)) (Gives (.bool (isMat r c zs)) _) :=
    sIsMat r c a cap zs _ (H.out.below ((Below.refl _ _).alloc (Nat.le_refl _) _)) hn
  have ST := Lib.hid start
  clear start
  rcases Bool.eq_false_or_eq_true (isMat r c zs) with hm | hm
  · obtain ⟨hr, hc, hl, hnum⟩ := isMat_says hm
    by_cases hi : 0 ≤ i ∧ i ≤ r - 1
    · by_cases hj : 0 ≤ j ∧ j ≤ c - 1
      · -- the cell
        have p1 := mul_size i c (by omega) hc
        have p2 : i * c + j < r * c := by
          have : i * c + c ≤ r * c := by
            have := Int.mul_le_mul_of_nonneg_right (show i + 1 ≤ r by omega) (show 0 ≤ c by omega)
            rw [Int.add_mul, Int.one_mul] at this; exact this
          omega
        obtain ⟨k, hk⟩ := Int.eq_ofNat_of_zero_le (show 0 ≤ i * c + j by omega)
        have hkn : k < zs.length := by omega
        have E : Hid (cellOf r c zs i j = zs.getD k 0) := by
          show cellOf r c zs i j = _
          unfold cellOf
          rw [hm, decide_eq_true hi, decide_eq_true hj, hk]; rfl
        have HK := Lib.hid hk
        obtain ⟨p3, p4⟩ := p1
        obtain ⟨z, hz⟩ : ∃ z, zs.getD k 0 = z := ⟨_, rfl⟩
        have Z := Lib.hid hz
        have kn : (k : Int) < zs.length := by omega
        have p5 : 0 ≤ i * c + j := by omega
        have p6 : i * c + j ≤ 600 := by omega
        have M := Lib.hid hm
        have kt : (i * c + j).toNat = k := by omega
        have p7 : i * c + j < (zs.length : Int) := by omega
        clear hk hz hm hl hnum p2
        go_enter Try.func52, Try.ntmps52
        go_wp2_with fail
        refine (ST.out).mono ?_
        rintro e w1 ⟨rfl, hb⟩
        have K0 : Hid (Blk3 w1 w.heap.size 27 (.int .i64 r) (.int .i64 c) (.slice a zs.length cap)) := (Blk3.at_ _ _ _ _ rfl).keep hb (by simp)
        have B : Hid (Below w.heap.size w w1) := ((Below.refl _ _).alloc (Nat.le_refl _) _).trans (hb.mono (by simp))
        clear hb
        obtain ⟨c0, c1, c2, -, -, -⟩ := K0.out.all
        obtain ⟨b, o, rfl, hcell⟩ := (H.out.below B.out) k hkn
        rw [Z.out] at hcell
        rw [M.out]
        go_wp2_with (go_at_call 59; refine (sIn_t _ _ _ _ (by omega) (by omega)).mono ?_; rintro e w' ⟨rfl, rfl⟩)
        go_ret
        exact ⟨by rw [E.out, Z.out]; rfl, B.out⟩
      · have E : Hid (cellOf r c zs i j = 0) := by
          show cellOf r c zs i j = _
          unfold cellOf
          rw [hm, decide_eq_false hj]; simp
        have M := Lib.hid hm
        have hj' : j < 0 ∨ c - 1 < j := by omega
        clear hm hl hnum hj
        go_enter Try.func52, Try.ntmps52
        go_wp2_with fail
        refine (ST.out).mono ?_
        rintro e w1 ⟨rfl, hb⟩
        have K0 : Hid (Blk3 w1 w.heap.size 27 (.int .i64 r) (.int .i64 c) (.slice a zs.length cap)) := (Blk3.at_ _ _ _ _ rfl).keep hb (by simp)
        have B : Hid (Below w.heap.size w w1) := ((Below.refl _ _).alloc (Nat.le_refl _) _).trans (hb.mono (by simp))
        clear hb
        obtain ⟨c0, c1, c2, -, -, -⟩ := K0.out.all
        rw [M.out]
        go_wp2_with fail
        refine (sIn_t i 0 (r - 1) _ hi.1 hi.2).mono ?_
        rintro e w' ⟨rfl, rfl⟩
        go_wp2_with fail
        refine (sIn_f j 0 (c - 1) _ hj').mono ?_
        rintro e w' ⟨rfl, rfl⟩
        go_wp2_with fail
        go_ret
        exact ⟨by rw [E.out]; rfl, B.out⟩
    · have E : Hid (cellOf r c zs i j = 0) := by
        show cellOf r c zs i j = _
        unfold cellOf
        rw [hm, decide_eq_false hi]; simp
      have M := Lib.hid hm
      have hi' : i < 0 ∨ r - 1 < i := by omega
      clear hm hl hnum hi
      go_enter Try.func52, Try.ntmps52
      go_wp2_with fail
      refine (ST.out).mono ?_
      rintro e w1 ⟨rfl, hb⟩
      have K0 : Hid (Blk3 w1 w.heap.size 27 (.int .i64 r) (.int .i64 c) (.slice a zs.length cap)) := (Blk3.at_ _ _ _ _ rfl).keep hb (by simp)
      have B : Hid (Below w.heap.size w w1) := ((Below.refl _ _).alloc (Nat.le_refl _) _).trans (hb.mono (by simp))
      clear hb
      obtain ⟨c0, c1, c2, -, -, -⟩ := K0.out.all
      rw [M.out]
      go_wp2_with fail
      refine (sIn_f i 0 (r - 1) _ hi').mono ?_
      rintro e w' ⟨rfl, rfl⟩
      go_wp2_with fail
      go_ret
      exact ⟨by rw [E.out]; rfl, B.out⟩
  · have E : Hid (cellOf r c zs i j = 0) := by
      show cellOf r c zs i j = _
      unfold cellOf
      rw [hm]; simp
    have M := Lib.hid hm
    clear hm
    go_enter Try.func52, Try.ntmps52
    go_wp2_with fail
    refine (ST.out).mono ?_
    rintro e w1 ⟨rfl, hb⟩
    have K0 : Hid (Blk3 w1 w.heap.size 27 (.int .i64 r) (.int .i64 c) (.slice a zs.length cap)) := (Blk3.at_ _ _ _ _ rfl).keep hb (by simp)
    have B : Hid (Below w.heap.size w w1) := ((Below.refl _ _).alloc (Nat.le_refl _) _).trans (hb.mono (by simp))
    clear hb
    obtain ⟨c0, c1, c2, -, -, -⟩ := K0.out.all
    rw [M.out]
    go_wp2_with fail
    go_ret
    exact ⟨by rw [E.out]; rfl, B.out⟩

end Go.Proofs.Ytdnajkoeojlnbaa
