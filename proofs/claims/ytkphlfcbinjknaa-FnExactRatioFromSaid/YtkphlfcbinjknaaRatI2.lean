/-
  Chapter 2, in the program: MakeRatio, IsRatio.
-/
import Derived.Test.YtkphlfcbinjknaaRatI
namespace Go.Proofs.Ytkphlfcbinjknaa
open Go.RowKit

theorem iLow0 (n : Int) (w : World) :
    Calls Try.prog 43 #[.agg #[.int .i64 n, .int .i64 0]] w (Gives (ratV (low n 0)) w) := by
  go_enter Try.func43, Try.ntmps43
  go_wp2_with fail
  refine bodyPost_ret (v := ratV (0, 0)) (by simp [results, Try.results43, go_sem, ratV]) rfl ⟨by rw [low_zero], ?_⟩
  exact ((Below.refl _ _).alloc (Nat.le_refl _) _).alloc (by simp) _
theorem iLowA (n d : Int) (w : World) (hn : -2000000000000000000 ≤ n ∧ n ≤ 2000000000000000000) (hd : -2000000000000000000 ≤ d ∧ d ≤ 2000000000000000000) :
    Calls Try.prog 43 #[.agg #[.int .i64 n, .int .i64 d]] w (Gives (ratV (low n d)) w) := by
  by_cases h : d = 0
  · subst h; exact iLow0 n w
  · exact iLow n d w hn hd h

theorem iMk (n d : Int) (w : World) : Calls Try.prog 38 #[.int .i64 n, .int .i64 d] w (Gives (ratV (mkRat n d)) w) := by
  by_cases hn : -400000000 ≤ n ∧ n ≤ 400000000
  · by_cases hd : -400000000 ≤ d ∧ d ≤ 400000000
    · rw [mkRat_in ⟨hn, hd⟩]
      go_enter Try.func38, Try.ntmps38
      go_wp2_with fail
      refine (iIsNum_t _ _ hn.1 hn.2).mono ?_
      rintro e w' ⟨rfl, rfl⟩
      go_wp2_with fail
      refine (iIsNum_t _ _ hd.1 hd.2).mono ?_
      rintro e w' ⟨rfl, rfl⟩
      go_wp2_with fail
      refine (iLowA n d _ (by omega) (by omega)).mono ?_
      rintro e w1 ⟨rfl, hb⟩
      have K0 : Hid (Blk2 w1 w.heap.size 25 (.int .i64 0) (.int .i64 0)) := (Blk2.at_ _ _ _ rfl).keep hb (by simp)
      obtain ⟨C0, C1, F0, F1⟩ := K0.out.all
      have B : Hid (Below w.heap.size w w1) := ((Below.refl _ _).alloc (Nat.le_refl _) _).trans (hb.mono (by simp))
      clear hb
      unfold ratV
      go_wp2_with fail
      obtain ⟨E0, E1, -, -⟩ := ((K0.out.set0 (.int .i64 (low n d).1)).set1 (.int .i64 (low n d).2)).all
      refine bodyPost_ret (v := ratV (low n d)) (by simp [results, Try.results38, go_sem, E0, E1, ratV]) rfl ⟨rfl, ?_⟩
      exact (B.out.setCell (Nat.le_refl _) _).setCell (Nat.le_refl _) _
    · rw [mkRat_out (fun k => hd k.2)]
      have hd' : d < -400000000 ∨ 400000000 < d := by omega
      clear hd
      go_enter Try.func38, Try.ntmps38
      go_wp2_with fail
      refine (iIsNum_t _ _ hn.1 hn.2).mono ?_
      rintro e w' ⟨rfl, rfl⟩
      go_wp2_with fail
      refine (iIsNum_f _ _ hd').mono ?_
      rintro e w' ⟨rfl, rfl⟩
      go_wp2_with fail
      refine bodyPost_ret (v := ratV (0, 0)) (by simp [results, Try.results38, go_sem, ratV]) rfl ⟨rfl, ?_⟩
      exact (Below.refl _ _).alloc (Nat.le_refl _) _
  · rw [mkRat_out (fun k => hn k.1)]
    have hn' : n < -400000000 ∨ 400000000 < n := by omega
    clear hn
    go_enter Try.func38, Try.ntmps38
    go_wp2_with fail
    refine (iIsNum_f _ _ hn').mono ?_
    rintro e w' ⟨rfl, rfl⟩
    go_wp2_with fail
    refine bodyPost_ret (v := ratV (0, 0)) (by simp [results, Try.results38, go_sem, ratV]) rfl ⟨rfl, ?_⟩
    exact (Below.refl _ _).alloc (Nat.le_refl _) _

/-- Two ratios compared. -/
theorem eqRat (n d a b : Int) (w : World) : (Op.equalIn 10000 25 (.agg #[.int .i64 n, .int .i64 d]) (.agg #[.int .i64 a, .int .i64 b])).run Try.prog w = .ok (n == a && d == b) w := by
  by_cases h1 : n = a
  · subst h1
    by_cases h2 : d = b
    · subst h2
      simp [go_sem]
    · have h2' : (d == b) = false := by simpa using h2
      simp [go_sem, h2']
  · have h1' : (n == a) = false := by simpa using h1
    simp [go_sem, h1']

theorem isRat_beq (n d : Int) (h : ¬ (n = 0 ∧ d = 0)) : (n == (mkRat n d).1 && d == (mkRat n d).2) = isRat n d := by
  rw [isRat_mk n d h]
  generalize mkRat n d = r
  obtain ⟨p, q⟩ := r
  rw [Bool.eq_iff_iff]
  simp only [Bool.and_eq_true, beq_iff_eq, decide_eq_true_eq, Prod.mk.injEq]
  exact ⟨fun h => ⟨h.1.symm, h.2.symm⟩, fun h => ⟨h.1.symm, h.2.symm⟩⟩

set_option maxHeartbeats 2000000 in
theorem iIsRat (n d : Int) (w : World) : Calls Try.prog 22 #[.agg #[.int .i64 n, .int .i64 d]] w (Gives (.bool (isRat n d)) w) := by
  by_cases h0 : n = 0 ∧ d = 0
  · obtain ⟨rfl, rfl⟩ := h0
    have E : Hid (isRat 0 0 = false) := decide_eq_false not_isRat_zero
    go_enter Try.func22, Try.ntmps22
    go_wp2_with fail
    go_quiet (fail)
    go_wp2_with fail
    go_ret
    exact ⟨by rw [E.out]; rfl, below_drewN ((Below.refl _ _).alloc (Nat.le_refl _) _) _⟩
  · have q1 : ∀ w : World, (Op.equalIn 10000 25 (.agg #[.int .i64 n, .int .i64 d]) (.agg #[.int .i64 0, .int .i64 0])).run Try.prog w = .ok false w := fun w => by
      rw [eqRat, show (n == 0 && d == 0) = false by simp; omega]
    have q2 : ∀ w : World, (Op.equalIn 10000 25 (.agg #[.int .i64 n, .int .i64 d]) (.agg #[.int .i64 (mkRat n d).1, .int .i64 (mkRat n d).2])).run Try.prog w = .ok (isRat n d) w := fun w => by
      rw [eqRat, isRat_beq n d h0]
    clear h0
    go_enter Try.func22, Try.ntmps22
    go_wp2_with fail
    go_region_with (go_at_call 38; refine (iMk _ _ _).mono ?_; rintro e w1 ⟨rfl, hb⟩; obtain ⟨C0, C1, -, -⟩ := (Blk2.keep (b := w.heap.size) (t := 25) (p := .int .i64 n) (q := .int .i64 d) (by first | exact Blk2.at_ _ _ _ rfl | exact (Blk2.at_ _ _ _ rfl).drewN _ | exact (Blk2.at_ _ _ _ rfl).drew) hb (by simp)).all; unfold ratV)
    all_goals
      go_wp2_with fail
      go_ret
      refine ⟨rfl, ?_⟩
      have B : Below w.heap.size w w1 := Below.trans (by repeat (first | exact Below.refl _ _ | refine below_drewN ?_ _ | refine Below.drew ?_ | refine Below.alloc ?_ (by simp) _)) (hb.mono (by simp))
      exact B
end Go.Proofs.Ytkphlfcbinjknaa
