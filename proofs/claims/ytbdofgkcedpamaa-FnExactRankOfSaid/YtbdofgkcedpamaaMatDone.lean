/-
  Chapter 3, in the model: a matrix that is done.
-/
import Derived.Test.YtbdofgkcedpamaaMatS
import Derived.Test.YtbdofgkcedpamaaLawMat
namespace Go.Proofs.Ytbdofgkcedpamaa
open Go.RowKit

/-- A matrix that is handed on if it is valid. -/
def DoneRes (r c : Int) (v : Value) (ok : Bool) : Value := if ok = true then .tuple #[.agg #[.int .i64 r, .int .i64 c, v], .bool true] else .tuple #[.agg #[.int .i64 0, .int .i64 0, .slice none 0 0], .bool false]

set_option maxHeartbeats 400000 in
theorem sDone (r c : Int) (a : Option Addr) (cap : Nat) (zs : List Int) (w : World) (h : Rd w a zs) (hn : zs.length ≤ 16777216) :
    Calls Try.prog 100 #[.agg #[.int .i64 r, .int .i64 c, .slice a zs.length cap]] w (Gives (DoneRes r c (.slice a zs.length cap) (isMat r c zs)) w) := by
  have H := Lib.hid h
  clear h
  go_enter Try.func100, Try.ntmps100
  go_wp2_with fail
  refine (sIsMat r c a cap zs _ (H.out.below (((Below.refl _ _).alloc (Nat.le_refl _) _).alloc (by simp) _)) hn).mono ?_
  rintro e w1 ⟨rfl, hb⟩
  have K0 : Hid (Blk3 w1 w.heap.size 26 (.int .i64 r) (.int .i64 c) (.slice a zs.length cap)) := ((Blk3.at_ _ _ _ _ rfl).old _).keep hb (by simp <;> omega)
  have K1 : Hid (Blk3 w1 (w.heap.size + 1) 26 (.int .i64 0) (.int .i64 0) (.slice none 0 0)) := (Blk3.at_ _ _ _ _ (by simp)).keep hb (by simp)
  have B : Hid (Below w.heap.size w w1) := (((Below.refl _ _).alloc (Nat.le_refl _) _).alloc (by simp) _).trans (hb.mono (by simp <;> omega))
  clear hb
  obtain ⟨c0, c1, c2, -, -, -⟩ := K0.out.all
  obtain ⟨d0, d1, d2, g0, g1, g2⟩ := K1.out.all
  have BB : ∀ x y z, Below w.heap.size w (((w1.setCell ⟨w.heap.size + 1, 0, none⟩ x).setCell ⟨w.heap.size + 1, 1, none⟩ y).setCell ⟨w.heap.size + 1, 2, none⟩ z) := fun x y z =>
    ((B.out.setCell (Nat.le_succ _) _).setCell (Nat.le_succ _) _).setCell (Nat.le_succ _) _
  have BH := Lib.hid BB
  clear BB
  rcases Bool.eq_false_or_eq_true (isMat r c zs) with hm | hm
  · rw [hm]
    have M := Lib.hid hm
    clear hm
    go_wp2_with fail
    obtain ⟨E0, E1, E2, -, -, -⟩ := (((K1.out.set0 (.int .i64 r)).set1 (.int .i64 c)).set2 (.slice a zs.length cap)).all
    exact bodyPost_ret (v := .tuple #[.agg #[.int .i64 r, .int .i64 c, .slice a zs.length cap], .bool true]) (by simp [results, Try.results100, go_sem, E0, E1, E2]) rfl ⟨by rw [M.out]; rfl, BH.out _ _ _⟩
  · rw [hm]
    have M := Lib.hid hm
    clear hm
    go_wp2_with fail
    obtain ⟨E0, E1, E2, -, -, -⟩ := (((K1.out.set0 (.int .i64 0)).set1 (.int .i64 0)).set2 (.slice none 0 0)).all
    exact bodyPost_ret (v := .tuple #[.agg #[.int .i64 0, .int .i64 0, .slice none 0 0], .bool false]) (by simp [results, Try.results100, go_sem, E0, E1, E2]) rfl ⟨by rw [M.out]; rfl, BH.out _ _ _⟩
end Go.Proofs.Ytbdofgkcedpamaa
