/-
  Chapter 3, in the program: CellOf.
-/
import Derived.Test.YtdnajkoeojlnbaaHasI
import Derived.Test.YtdnajkoeojlnbaaMatS2
namespace Go.Proofs.Ytdnajkoeojlnbaa
set_option maxRecDepth 100000
open Go.RowKit

set_option maxHeartbeats 400000 in
theorem iCellOf (r c : Int) (a : Option Addr) (cap : Nat) (zs : List Int) (i j : Int) (w : World) (h : Rd w a zs) (hn : zs.length ≤ 16777216) :
    Calls Try.prog 53 #[.agg #[.int .i64 r, .int .i64 c, .slice a zs.length cap], .int .i64 i, .int .i64 j] w (Gives (.int .i64 (cellOf r c zs i j)) w) := by
  have H := Lib.hid h
  have B0 : Hid (∀ o1, Below w.heap.size w (w.alloc o1)) := fun o1 => (Below.refl _ _).alloc (Nat.le_refl _) _
  have HC : Hid (∀ w', Below w.heap.size w w' → Calls Try.prog 61 #[.agg #[.int .i64 r, .int .i64 c, .slice a zs.length cap], .int .i64 i, .int .i64 j] w' (Gives (.bool (hasB r c zs i j)) w')) := fun w' hb => iHasCell r c i j a cap zs w' (h.below hb) hn
  clear h
  rcases Bool.eq_false_or_eq_true (hasB r c zs i j) with hh | hh
  · have hh2 := hh
    unfold hasB at hh2
    simp only [Bool.and_eq_true, decide_eq_true_eq] at hh2
    obtain ⟨hm, ⟨i1, i2⟩, j1, j2⟩ := hh2
    obtain ⟨hr, hc, hl, -⟩ := isMat_says hm
    have p1 := mul_size i c (by omega) hc
    have p2 : i * c + j < r * c := by
      have : i * c + c ≤ r * c := by
        have := Int.mul_le_mul_of_nonneg_right (show i + 1 ≤ r by omega) (show 0 ≤ c by omega)
        rw [Int.add_mul, Int.one_mul] at this; exact this
      omega
    obtain ⟨k, hk⟩ := Int.eq_ofNat_of_zero_le (show 0 ≤ i * c + j by omega)
    have hkn : k < zs.length := by omega
    have E : Hid (cellOf r c zs i j = zs.getD k 0) := by
      show cellOf r c zs i j = _
      unfold cellOf
      rw [hm, decide_eq_true (show 0 ≤ i ∧ i ≤ r - 1 by omega), decide_eq_true (show 0 ≤ j ∧ j ≤ c - 1 by omega), hk]; rfl
    obtain ⟨p3, p4⟩ := p1
    obtain ⟨z, hz⟩ : ∃ z, zs.getD k 0 = z := ⟨_, rfl⟩
    have Z := Lib.hid hz
    have p5 : 0 ≤ i * c + j := by omega
    have p6 : i * c + j ≤ 600 := by omega
    have kt : (i * c + j).toNat = k := by omega
    have p7 : i * c + j < (zs.length : Int) := by omega
    have u1 : IntKind.i64.wrap (i * c) = i * c := IntWalk.i64_in _ (by omega)
    have u2 : IntKind.i64.wrap (i * c + j) = i * c + j := IntWalk.i64_in _ (by omega)
    rw [hh] at HC
    clear hh hm hk hz hl p2
    go_enter Try.func53, Try.ntmps53
    go_wp2_with fail
    refine (HC.out _ (B0.out _)).mono ?_
    rintro e w1 ⟨rfl, hb⟩
    have K0 : Hid (Blk3 w1 w.heap.size 27 (.int .i64 r) (.int .i64 c) (.slice a zs.length cap)) := (Blk3.at_ _ _ _ _ rfl).keep hb (by simp)
    have B : Hid (Below w.heap.size w w1) := (B0.out _).trans (hb.mono (by simp))
    clear hb
    obtain ⟨c0, c1, c2, -, -, -⟩ := K0.out.all
    obtain ⟨b, o, rfl, hcell⟩ := (H.out.below B.out) k hkn
    rw [Z.out] at hcell
    go_wp2_with fail
    go_ret
    exact ⟨by rw [E.out, Z.out]; rfl, B.out⟩
  · have E : Hid (cellOf r c zs i j = 0) := by
      show cellOf r c zs i j = _
      unfold hasB at hh
      unfold cellOf
      rcases Bool.eq_false_or_eq_true (isMat r c zs) with hm | hm
      · rw [hm, Bool.true_and, decide_eq_false_iff_not] at hh
        rw [hm]
        by_cases h1 : 0 ≤ i ∧ i ≤ r - 1
        · rw [decide_eq_false (show ¬ (0 ≤ j ∧ j ≤ c - 1) from fun h2 => hh ⟨by omega, by omega⟩)]; simp
        · rw [decide_eq_false h1]; simp
      · rw [hm]; simp
    rw [hh] at HC
    clear hh
    go_enter Try.func53, Try.ntmps53
    go_wp2_with fail
    refine (HC.out _ (B0.out _)).mono ?_
    rintro e w1 ⟨rfl, hb⟩
    have B : Hid (Below w.heap.size w w1) := (B0.out _).trans (hb.mono (by simp))
    clear hb
    go_wp2_with fail
    go_ret
    exact ⟨by rw [E.out]; rfl, B.out⟩
end Go.Proofs.Ytdnajkoeojlnbaa
