/-
  Chapter 6, in the program: IsUnimodular.
-/
import Derived.Test.YtpelnfenfeoeeaaDetI
namespace Go.Proofs.Ytpelnfenfeoeeaa
set_option maxRecDepth 100000
open Go.RowKit

set_option maxHeartbeats 1000000 in
theorem iUni (r c : Int) (a : Option Addr) (m : Nat) (xs : List Int) (w : World) (h : Rd w a xs) (hn : xs.length ≤ 16777216) :
    Calls Try.prog 48 #[.agg #[.int .i64 r, .int .i64 c, .slice a xs.length m]] w (Gives (.bool (uniB r c xs)) w) := by
  have H := Lib.hid h
  have HN := Lib.hid hn
  have B0 : Hid (∀ o1, Below w.heap.size w (w.alloc o1)) := fun o1 => (Below.refl _ _).alloc (Nat.le_refl _) _
  have DT : Hid (∀ w', Below w.heap.size w w' → Calls Try.prog 46 #[.agg #[.int .i64 r, .int .i64 c, .slice a xs.length m]] w' (Gives (.tuple #[.int .i64 (detOf r c xs).1, .bool (detOf r c xs).2]) w')) := fun w' hb => iDetOf r c a m xs w' (H.out.below hb) HN.out
  have V : Hid (uniB r c xs = ((detOf r c xs).2 && decide ((detOf r c xs).1 = 1 ∨ (detOf r c xs).1 = -1))) := rfl
  rw [V.out]
  obtain ⟨d, e1⟩ : ∃ d, (detOf r c xs).1 = d := ⟨_, rfl⟩
  obtain ⟨b, e2⟩ : ∃ b, (detOf r c xs).2 = b := ⟨_, rfl⟩
  rw [e1] at DT ⊢
  rw [e2] at DT ⊢
  clear e1 e2 V h hn
  generalize xs.length = l at DT ⊢
  obtain ⟨v, hv⟩ : ∃ v, (b && decide (d = 1 ∨ d = -1)) = v := ⟨_, rfl⟩
  rw [hv]
  have CS : (b = false ∧ v = false) ∨ (b = true ∧ (d == 1) = true ∧ v = true) ∨ (b = true ∧ (d == 1) = false ∧ (d == -1) = true ∧ v = true) ∨ (b = true ∧ (d == 1) = false ∧ (d == -1) = false ∧ v = false) := by
    rw [← hv]
    cases b with
    | false => exact .inl ⟨rfl, rfl⟩
    | true =>
      by_cases h1 : d = 1
      · exact .inr (.inl ⟨rfl, by simpa using h1, by simp [h1]⟩)
      · by_cases h2 : d = -1
        · exact .inr (.inr (.inl ⟨rfl, by simpa using h1, by simpa using h2, by simp [h2]⟩))
        · exact .inr (.inr (.inr ⟨rfl, by simpa using h1, by simpa using h2, by simp [h1, h2]⟩))
  clear hv
  rcases CS with ⟨rfl, rfl⟩ | ⟨rfl, n1, rfl⟩ | ⟨rfl, n1, n2, rfl⟩ | ⟨rfl, n1, n2, rfl⟩
  all_goals
    go_enter Try.func48, Try.ntmps48
    go_wp2_with fail
    refine (DT.out _ (B0.out _)).mono ?_
    rintro e w1 ⟨rfl, hb⟩
    have B : Hid (Below w.heap.size w w1) := (B0.out _).trans (hb.mono (by simp))
    clear hb
    go_wp2_with fail
    go_ret
    exact ⟨rfl, B.out⟩
end Go.Proofs.Ytpelnfenfeoeeaa
