/-
  The laws' own helpers on matrices: sizes, copies, comparisons, marks.
-/
import Derived.Test.YtpelnfenfeoeeaaLawInts
namespace Go.Proofs.Ytpelnfenfeoeeaa
open Go.RowKit

theorem szM (r c : Int) (a : Option Addr) (n cap : Nat) (l : Int) (w : World) (hn : (n : Int) ≤ l) (hl : l ≤ 1048576) :
    Calls Try.prog 14 #[.agg #[.int .i64 r, .int .i64 c, .slice a n cap], .int .i64 l] w (Gives (.int .i64 (l - n)) w) := by
  go_enter Try.func14, Try.ntmps14
  go_wp2_with fail
  refine (szI a n cap l _ hn hl).mono ?_
  rintro e w' ⟨rfl, rfl⟩
  go_wp2_with fail
  go_ret
  exact ⟨rfl, (Below.refl _ _).alloc (Nat.le_refl _) _⟩
theorem szM_f (r c : Int) (a : Option Addr) (n cap : Nat) (l : Int) (w : World) (hn : l < (n : Int)) (h0 : 0 ≤ l) (hm : n ≤ 9223372036854775807) :
    Calls Try.prog 14 #[.agg #[.int .i64 r, .int .i64 c, .slice a n cap], .int .i64 l] w (Gives (.int .i64 (-1)) w) := by
  go_enter Try.func14, Try.ntmps14
  go_wp2_with fail
  refine (szI_f a n cap l _ hn h0 hm).mono ?_
  rintro e w' ⟨rfl, rfl⟩
  go_wp2_with fail
  go_ret
  exact ⟨rfl, (Below.refl _ _).alloc (Nat.le_refl _) _⟩

/-- A matrix whose cells lie in a new block. -/
def NewMat (r c : Int) (zs : List Int) (w : World) (e : Ending) (w' : World) : Prop :=
  ∃ g : Nat, e = .returned (.agg #[.int .i64 r, .int .i64 c, .slice (some ⟨g, 0, none⟩) zs.length zs.length]) ∧ w.heap.size ≤ g ∧ Ints w' g zs ∧ Below w.heap.size w w'

set_option maxHeartbeats 400000 in
theorem toM (r c : Int) (a : Option Addr) (cap : Nat) (zs : List Int) (w : World) (h : Rd w a zs) (hn : zs.length ≤ 1048576) :
    Calls Try.prog 16 #[.agg #[.int .i64 r, .int .i64 c, .slice a zs.length cap]] w (NewMat r c zs w) := by
  have H := Lib.hid h
  clear h
  go_enter Try.func16, Try.ntmps16
  go_wp2_with fail
  refine (toI a cap zs _ (H.out.below (((((Below.refl _ _).alloc (Nat.le_refl _) _).alloc (by simp) _).alloc (by simp <;> omega) _))) hn).mono ?_
  rintro e w1 ⟨rfl, hi, hb⟩
  have K1 : Hid (Blk3 w1 (w.heap.size + 1) 26 (.int .i64 0) (.int .i64 0) (.slice none 0 0)) := ((Blk3.at_ _ _ _ _ (by simp)).old _).keep hb (by simp <;> omega)
  have K2 : Hid (Blk3 w1 (w.heap.size + 1 + 1) 26 (.int .i64 r) (.int .i64 c) (.slice none 0 0)) := (Blk3.at_ _ _ _ _ (by simp)).keep hb (by simp)
  have I : Hid (Ints w1 (w.heap.size + 1 + 1 + 1) zs) := by have := hi; simp at this; exact this
  have B : Hid (Below w.heap.size w w1) := ((((Below.refl _ _).alloc (Nat.le_refl _) _).alloc (by simp) _).alloc (by simp <;> omega) _).trans (hb.mono (by simp <;> omega))
  clear hi hb
  obtain ⟨c0, c1, c2, f0, f1, f2⟩ := K1.out.all
  obtain ⟨d0, d1, d2, g0, g1, g2⟩ := K2.out.all
  obtain ⟨n, hnn⟩ : ∃ n, zs.length = n := ⟨_, rfl⟩
  have HN := Lib.hid hnn
  rw [hnn] at hn ⊢
  clear hnn
  go_wp2_with fail
  obtain ⟨E0, E1, E2, -, -, -⟩ := ((((K1.out.far (a := ⟨w.heap.size + 1 + 1, 2, none⟩) (by simp) (.slice (some ⟨w.heap.size + 1 + 1 + 1, 0, none⟩) n n)).set0 (.int .i64 r)).set1 (.int .i64 c)).set2 (.slice (some ⟨w.heap.size + 1 + 1 + 1, 0, none⟩) n n)).all
  refine bodyPost_ret (v := .agg #[.int .i64 r, .int .i64 c, .slice (some ⟨w.heap.size + 1 + 1 + 1, 0, none⟩) n n]) (by simp [results, Try.results16, go_sem, E0, E1, E2]) rfl ⟨w.heap.size + 1 + 1 + 1, by rw [HN.out], by omega, ?_, ?_⟩
  · exact (((I.out.far (by simp <;> omega) _).far (by simp <;> omega) _).far (by simp <;> omega) _).far (by simp <;> omega) _
  · exact (((B.out.setCell (by show w.heap.size ≤ w.heap.size + 1 + 1; omega) _).setCell (by show w.heap.size ≤ w.heap.size + 1; omega) _).setCell (by show w.heap.size ≤ w.heap.size + 1; omega) _).setCell (by show w.heap.size ≤ w.heap.size + 1; omega) _

theorem eqM_t (r c : Int) (a b : Option Addr) (m n : Nat) (zs : List Int) (w : World) (h : Rd w a zs) (h' : Rd w b zs) (hn : zs.length ≤ 16777216) :
    Calls Try.prog 18 #[.agg #[.int .i64 r, .int .i64 c, .slice a zs.length m], .agg #[.int .i64 r, .int .i64 c, .slice b zs.length n]] w (Gives (.bool true) w) := by
  have H := Lib.hid h
  have H' := Lib.hid h'
  clear h h'
  have B0 : ∀ o1 o2, Below w.heap.size w ((w.alloc o1).alloc o2) := fun o1 o2 => ((Below.refl _ _).alloc (Nat.le_refl _) _).alloc (by simp) _
  have BH := Lib.hid B0
  clear B0
  go_enter Try.func18, Try.ntmps18
  go_wp2_with fail
  refine (eqI_t a b m n zs _ (H.out.below (BH.out _ _)) (H'.out.below (BH.out _ _)) hn).mono ?_
  rintro e w1 ⟨rfl, k, rfl⟩
  go_wp2_with fail
  go_ret
  exact ⟨rfl, below_drewN (BH.out _ _) _⟩

theorem markM (r c : Int) (g cap n : Nat) (zs : List Int) (k : Int) (w : World) (h : Ints w g zs) (hn : n ≤ zs.length) (hm : zs.length ≤ 16777216) (hc0 : 0 ≤ k) (hc : k ≤ 16777216) :
    Calls Try.prog 19 #[.agg #[.int .i64 r, .int .i64 c, .slice (some ⟨g, 0, none⟩) n cap], .int .i64 k] w fun e w' => e = .returned (.int .i64 (k + n)) ∧ Ints w' g (marks k n ++ zs.drop n) ∧ w.grownBy w' (some g) := by
  have H := Lib.hid h
  clear h
  go_enter Try.func19, Try.ntmps19
  go_wp2_with fail
  refine (markI g cap n zs k _ (H.out.old _) hn hm hc0 hc).mono ?_
  rintro e w1 ⟨rfl, hi, hg⟩
  have I := Lib.hid hi
  have G := Lib.hid ((World.grownBy_alloc w _ _).trans hg)
  clear hi hg
  go_wp2_with fail
  go_ret
  exact ⟨rfl, I.out, G.out⟩
theorem markM_nil (r c : Int) (cap : Nat) (k : Int) (w : World) :
    Calls Try.prog 19 #[.agg #[.int .i64 r, .int .i64 c, .slice none 0 cap], .int .i64 k] w (Gives (.int .i64 k) w) := by
  go_enter Try.func19, Try.ntmps19
  go_wp2_with fail
  refine (markI_nil cap k _).mono ?_
  rintro e w1 ⟨rfl, rfl⟩
  go_wp2_with fail
  go_ret
  exact ⟨rfl, (Below.refl _ _).alloc (Nat.le_refl _) _⟩
theorem heldM (r c : Int) (a : Option Addr) (cap n : Nat) (k : Int) (w : World) (h : Rd w a (marks k n)) (hm : n ≤ 16777216) (hc0 : 0 ≤ k) (hc : k ≤ 16777216) :
    Calls Try.prog 20 #[.agg #[.int .i64 r, .int .i64 c, .slice a n cap], .int .i64 k] w (Gives (.int .i64 (k + n)) w) := by
  have H := Lib.hid h
  clear h
  go_enter Try.func20, Try.ntmps20
  go_wp2_with fail
  refine (heldI a cap n k _ (H.out.below ((Below.refl _ _).alloc (Nat.le_refl _) _)) hm hc0 hc).mono ?_
  rintro e w1 ⟨rfl, rfl⟩
  go_wp2_with fail
  go_ret
  exact ⟨rfl, (Below.refl _ _).alloc (Nat.le_refl _) _⟩
end Go.Proofs.Ytpelnfenfeoeeaa
