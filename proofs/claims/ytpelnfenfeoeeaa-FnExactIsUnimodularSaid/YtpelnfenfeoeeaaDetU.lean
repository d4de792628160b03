/-
  Chapter 6, in the model: IsUnimodular.
-/
import Derived.Test.YtpelnfenfeoeeaaDetO
namespace Go.Proofs.Ytpelnfenfeoeeaa
set_option maxRecDepth 100000
open Go.RowKit

set_option maxRecDepth 100000 in
set_option maxHeartbeats 1000000 in
theorem sUni (r c : Int) (a : Option Addr) (m : Nat) (xs : List Int) (w : World) (h : Rd w a xs) (hn : xs.length ≤ 16777216) :
    Calls Try.prog 47 #[.agg #[.int .i64 r, .int .i64 c, .slice a xs.length m]] w (Gives (.bool (uniB r c xs)) w) := by
  have H := Lib.hid h
  have HN := Lib.hid hn
  have B0 : Hid (∀ o1, Below w.heap.size w (w.alloc o1)) := fun o1 => (Below.refl _ _).alloc (Nat.le_refl _) _
  have DT : Hid (∀ w', Below w.heap.size w w' → Calls Try.prog 45 #[.agg #[.int .i64 r, .int .i64 c, .slice a xs.length m]] w' (Gives (.tuple #[.int .i64 (detOf r c xs).1, .bool (detOf r c xs).2]) w')) := fun w' hb => sDetOf r c a m xs w' (H.out.below hb) HN.out
  have hd := detOf_num r c xs
  have V : Hid (uniB r c xs = ((detOf r c xs).2 && decide ((detOf r c xs).1 = 1 ∨ (detOf r c xs).1 = -1))) := rfl
  rw [V.out]
  obtain ⟨d, e1⟩ : ∃ d, (detOf r c xs).1 = d := ⟨_, rfl⟩
  obtain ⟨b, e2⟩ : ∃ b, (detOf r c xs).2 = b := ⟨_, rfl⟩
  rw [e1] at DT hd ⊢
  rw [e2] at DT ⊢
  clear e1 e2 V h hn
  generalize xs.length = l at DT ⊢
  unfold NumP at hd
  cases b with
  | false =>
    go_enter Try.func47, Try.ntmps47
    go_wp2_with fail
    refine (DT.out _ (B0.out _)).mono ?_
    rintro e w1 ⟨rfl, hb⟩
    have B : Hid (Below w.heap.size w w1) := (B0.out _).trans (hb.mono (by simp))
    clear hb
    go_wp2_with fail
    go_ret
    exact ⟨rfl, B.out⟩
  | true =>
    rcases Int.lt_or_le d 0 with h0 | h0
    · obtain ⟨k, hk⟩ : ∃ k, d = -k := ⟨-d, by omega⟩
      have n2 : Hid ((k == 1) = decide (d = 1 ∨ d = -1)) := by
        show (k == 1) = _
        by_cases e : k = 1
        · rw [decide_eq_true (by omega)]; simpa using e
        · rw [decide_eq_false (by omega)]; simpa using e
      rw [Bool.true_and, ← n2.out]
      subst hk
      go_enter Try.func47, Try.ntmps47
      go_wp2_with fail
      refine (DT.out _ (B0.out _)).mono ?_
      rintro e w1 ⟨rfl, hb⟩
      have B : Hid (Below w.heap.size w w1) := (B0.out _).trans (hb.mono (by simp))
      clear hb
      go_wp2_with fail
      refine (sAbs_n k _ (by omega) (by omega)).mono ?_
      rintro e w2 ⟨rfl, rfl⟩
      go_wp2_with fail
      go_ret
      exact ⟨rfl, B.out⟩
    · have n2 : Hid ((d == 1) = decide (d = 1 ∨ d = -1)) := by
        show (d == 1) = _
        by_cases e : d = 1
        · rw [decide_eq_true (by omega)]; simpa using e
        · rw [decide_eq_false (by omega)]; simpa using e
      rw [Bool.true_and, ← n2.out]
      go_enter Try.func47, Try.ntmps47
      go_wp2_with fail
      refine (DT.out _ (B0.out _)).mono ?_
      rintro e w1 ⟨rfl, hb⟩
      have B : Hid (Below w.heap.size w w1) := (B0.out _).trans (hb.mono (by simp))
      clear hb
      go_wp2_with fail
      refine (sAbs_p d _ (by omega) (by omega)).mono ?_
      rintro e w2 ⟨rfl, rfl⟩
      go_wp2_with fail
      go_ret
      exact ⟨rfl, B.out⟩
end Go.Proofs.Ytpelnfenfeoeeaa
