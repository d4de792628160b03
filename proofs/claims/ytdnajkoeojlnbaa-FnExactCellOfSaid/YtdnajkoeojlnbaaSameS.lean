/-
  Chapter 3, in the model: SameMatrix.
-/
import Derived.Test.YtdnajkoeojlnbaaMatNew
import Derived.Test.YtdnajkoeojlnbaaMatDone
import Derived.Test.YtdnajkoeojlnbaaSameMath
namespace Go.Proofs.Ytdnajkoeojlnbaa
open Go.RowKit

set_option maxHeartbeats 400000 in
theorem sSame (r c r' c' : Int) (a b : Option Addr) (m n : Nat) (xs ys : List Int) (w : World) (h : Rd w a xs) (h' : Rd w b ys) (hn : xs.length ≤ 16777216) :
    Calls Try.prog 43 #[.agg #[.int .i64 r, .int .i64 c, .slice a xs.length m], .agg #[.int .i64 r', .int .i64 c', .slice b ys.length n]] w (Gives (.bool (sameM r c xs r' c' ys)) w) := by
  have B0 : ∀ o1 o2, Below w.heap.size w ((w.alloc o1).alloc o2) := fun o1 o2 => ((Below.refl _ _).alloc (Nat.le_refl _) _).alloc (by simp) _
  have BH := Lib.hid B0
  clear B0
  have H := Lib.hid h
  have H' := Lib.hid h'
  clear h h'
  by_cases e1 : r = r'
  · by_cases e2 : c = c'
    · by_cases e3 : xs.length = ys.length
      · subst e1 e2
        obtain ⟨k0, hk0⟩ : ∃ k0, xs.length = k0 := ⟨_, rfl⟩
        have HX := Lib.hid hk0
        have HY : Hid (ys.length = k0) := e3.symm.trans hk0
        rw [← e3, hk0]
        rw [hk0] at hn
        clear e3 hk0
        go_enter Try.func43, Try.ntmps43
        go_wp2_with fail
        go_loopw [5] (fun i wr => ∃ k : Nat, i = .int .i64 k ∧ k ≤ k0 ∧ (∀ j : Nat, j < k → xs.getD j 0 = ys.getD j 0) ∧ ∃ q, wr = ((w.alloc (.cells #[.int .i64 r, .int .i64 c, .slice a k0 m] 27)).alloc (.cells #[.int .i64 r, .int .i64 c, .slice b k0 n] 27)).drewN q) (fun i _ => k0 - (intOf i).toNat)
        case atStart => exact ⟨0, rfl, by omega, fun j hj => absurd hj (by omega), 0, rfl⟩
        case round =>
          obtain ⟨k, rfl, hk, hall, q, rfl⟩ := hrel
          have HA := Lib.hid hall
          clear hall
          by_cases hlt : k < k0
          · obtain ⟨b1, o1, rfl, hc1⟩ := (H.out.below (BH.out (.cells #[.int .i64 r, .int .i64 c, .slice a k0 m] 27) (.cells #[.int .i64 r, .int .i64 c, .slice b k0 n] 27))) k (by rw [HX.out]; exact hlt)
            obtain ⟨b2, o2, rfl, hc2⟩ := (H'.out.below (BH.out (.cells #[.int .i64 r, .int .i64 c, .slice (some ⟨b1, o1, none⟩) k0 m] 27) (.cells #[.int .i64 r, .int .i64 c, .slice b k0 n] 27))) k (by rw [HY.out]; exact hlt)
            obtain ⟨x, hx⟩ : ∃ x, xs.getD k 0 = x := ⟨_, rfl⟩
            obtain ⟨y, hy⟩ : ∃ y, ys.getD k 0 = y := ⟨_, rfl⟩
            rw [hx] at hc1
            rw [hy] at hc2
            have X := Lib.hid hx
            have Y := Lib.hid hy
            clear hx hy
            by_cases hxy : x = y
            · subst hxy
              go_wp2_with fail
              go_quiet (fail)
              go_wp2_with fail
              go_roundw
              case rel =>
                refine ⟨k + 1, by go_num, by omega, fun j hj => ?_, _, rfl⟩
                rcases Nat.lt_or_ge j k with h1 | h1
                · exact HA.out j h1
                · obtain rfl : j = k := by omega
                  rw [X.out, Y.out]
              case measure => simp [intOf]; omega
            · have E : Hid (sameM r c xs r c ys = false) := decide_eq_false (fun t => hxy (by rw [← X.out, ← Y.out, t.2.2]))
              have n1 : (x != y) = true := by simpa using hxy
              have n2 : (x == y) = false := by simpa using hxy
              clear hxy
              go_wp2_with fail
              go_quiet (fail)
              go_wp2_with fail
              go_ret
              exact ⟨by rw [E.out]; rfl, below_drewN (below_drewN (BH.out _ _) _) _⟩
          · have hkn : k = k0 := by omega
            subst hkn
            have E : Hid (sameM r c xs r c ys = true) := decide_eq_true ⟨rfl, rfl, list_eq HX.out HY.out HA.out⟩
            go_wp2_with fail
            go_ret
            exact ⟨by rw [E.out]; rfl, below_drewN (BH.out _ _) _⟩
      · have E : Hid (sameM r c xs r' c' ys = false) := decide_eq_false (fun t => e3 (by rw [t.2.2]))
        subst e1 e2
        obtain ⟨k0, hk0⟩ : ∃ k0, xs.length = k0 := ⟨_, rfl⟩
        obtain ⟨k1, hk1⟩ : ∃ k1, ys.length = k1 := ⟨_, rfl⟩
        rw [hk0, hk1] at e3
        rw [hk0] at hn ⊢
        rw [hk1]
        have n1 : (k0 == k1) = false := by simpa using e3
        have n2 : (k0 != k1) = true := by simpa using e3
        have n3 : ((k0 : Int) == (k1 : Int)) = false := by simp; omega
        have n4 : ((k0 : Int) != (k1 : Int)) = true := by simp; omega
        clear e3 hk0 hk1
        go_enter Try.func43, Try.ntmps43
        go_wp2_with fail
        go_ret
        exact ⟨by rw [E.out]; rfl, BH.out _ _⟩
    · have E : Hid (sameM r c xs r' c' ys = false) := decide_eq_false (fun t => e2 t.2.1)
      subst e1
      have n1 : (c == c') = false := by simpa using e2
      have n2 : (c != c') = true := by simpa using e2
      clear e2
      go_enter Try.func43, Try.ntmps43
      go_wp2_with fail
      go_ret
      exact ⟨by rw [E.out]; rfl, BH.out _ _⟩
  · have E : Hid (sameM r c xs r' c' ys = false) := decide_eq_false (fun t => e1 t.1)
    have n1 : (r == r') = false := by simpa using e1
    have n2 : (r != r') = true := by simpa using e1
    clear e1
    go_enter Try.func43, Try.ntmps43
    go_wp2_with fail
    go_ret
    exact ⟨by rw [E.out]; rfl, BH.out _ _⟩
end Go.Proofs.Ytdnajkoeojlnbaa
