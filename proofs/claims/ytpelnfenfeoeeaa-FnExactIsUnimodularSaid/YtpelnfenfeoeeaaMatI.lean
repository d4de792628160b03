/-
  Chapter 3, in the program: IsMatrix.
-/
import Derived.Test.YtpelnfenfeoeeaaLawInts
import Derived.Test.YtpelnfenfeoeeaaMatMath
import Derived.BigQuiet
import Derived.Deep.QuietTactic
namespace Go.Proofs.Ytpelnfenfeoeeaa
open Go.RowKit

theorem iSize_t (n : Int) (w : World) (h1 : 0 ≤ n) (h2 : n ≤ 24) :
    Calls Try.prog 112 #[.int .i64 n] w fun e w' => e = .returned (.bool true) ∧ w = w' := by
  go_enter Try.func112, Try.ntmps112
  go_wp2
  go_ret
  exact ⟨rfl, rfl⟩
theorem iSize_f (n : Int) (w : World) (h : n < 0 ∨ 24 < n) :
    Calls Try.prog 112 #[.int .i64 n] w fun e w' => e = .returned (.bool false) ∧ w = w' := by
  by_cases h1 : 0 ≤ n
  · have h2 : decide (n ≤ 24) = false := by simp; omega
    go_enter Try.func112, Try.ntmps112
    go_wp2
    go_ret
    exact ⟨rfl, rfl⟩
  · go_enter Try.func112, Try.ntmps112
    go_wp2
    go_ret
    exact ⟨rfl, rfl⟩
theorem iSize (n : Int) (w : World) :
    Calls Try.prog 112 #[.int .i64 n] w fun e w' => e = .returned (.bool (decide (SizeP n))) ∧ w = w' := by
  by_cases h : SizeP n
  · rw [decide_eq_true h]; exact iSize_t n w h.1 h.2
  · rw [decide_eq_false h]; exact iSize_f n w (by unfold SizeP at h; omega)
theorem iIsNum (n : Int) (w : World) :
    Calls Try.prog 114 #[.int .i64 n] w fun e w' => e = .returned (.bool (decide (NumP n))) ∧ w = w' := by
  by_cases h : NumP n
  · rw [decide_eq_true h]; exact iIsNum_t n w h.1 h.2
  · rw [decide_eq_false h]; exact iIsNum_f n w (by unfold NumP at h; omega)
/-- The step of IsMatrix's fold. -/
theorem iStep (b : Bool) (i j z : Int) (w : World) :
    Calls Try.prog 113 #[.bool b, .int .i64 i, .int .i64 j, .int .i64 z] w fun e w' => e = .returned (.bool (b && decide (NumP z))) ∧ w = w' := by
  cases b
  · go_enter Try.func113, Try.ntmps113
    go_wp2_with fail
    go_ret
    exact ⟨rfl, rfl⟩
  · go_enter Try.func113, Try.ntmps113
    go_wp2_with fail
    refine (iIsNum z _).mono ?_
    rintro e w' ⟨rfl, rfl⟩
    go_wp2_with fail
    go_ret
    exact ⟨rfl, rfl⟩
theorem take_nums (zs : List Int) (k : Nat) (hk : k < zs.length) : nums (zs.take (k + 1)) = (nums (zs.take k) && decide (NumP (zs.getD k 0))) := by
  unfold nums
  rw [List.take_succ_eq_append_getElem hk, List.all_append]
  simp only [List.all_cons, List.all_nil, Bool.and_true, List.getD, List.getElem?_eq_getElem hk, Option.getD_some]
set_option maxHeartbeats 400000 in
theorem iFoldB (r c : Int) (a : Option Addr) (cap : Nat) (zs : List Int) (w : World) (h : Rd w a zs) (hn : zs.length ≤ 16777216) (hc : zs.length = 0 ∨ 0 < c) :
    Calls Try.prog 66 #[.agg #[.int .i64 r, .int .i64 c, .slice a zs.length cap], .bool true, .func (.func 113) #[] #[]] w (Gives (.bool (nums zs)) w) := by
  have B0 : ∀ o, Below w.heap.size w (w.alloc o) := fun o => (Below.refl _ _).alloc (Nat.le_refl _) o
  have BH := Lib.hid B0
  have H := Lib.hid h
  obtain ⟨n, hnn⟩ : ∃ n, zs.length = n := ⟨_, rfl⟩
  have HN := Lib.hid hnn
  rw [hnn] at hn hc ⊢
  clear h B0 hnn
  go_enter Try.func66, Try.ntmps66
  go_wp2_with fail
  go_loopw [7, 8, 9, 14] (fun b _ _ i wr => ∃ k : Nat, i = .int .i64 k ∧ k ≤ n ∧ b = .bool (nums (zs.take k)) ∧ ∃ q, wr = (w.alloc (.cells #[.int .i64 r, .int .i64 c, .slice a n cap] 26)).drewN q) (fun _ _ _ i _ => n - (intOf i).toNat)
  case atStart => exact ⟨0, rfl, by omega, rfl, 0, rfl⟩
  case round =>
    obtain ⟨k, rfl, hk, rfl, q, rfl⟩ := hrel
    by_cases hlt : k < n
    · have c0 : (c == 0) = false := by simp; omega
      obtain ⟨b, o, rfl, hcell⟩ := (H.out.below (BH.out (.cells #[.int .i64 r, .int .i64 c, .slice a n cap] 26))) k (by rw [HN.out]; exact hlt)
      obtain ⟨z, hz⟩ : ∃ z, zs.getD k 0 = z := ⟨_, rfl⟩
      obtain ⟨bb, hbb⟩ : ∃ bb, nums (zs.take k) = bb := ⟨_, rfl⟩
      rw [hz] at hcell
      have Z := Lib.hid hz
      have BB := Lib.hid hbb
      rw [hbb]
      clear hz hbb
      go_wp2_with fail
      go_quiet ((refine (iStep _ _ _ _ _).mono ?_; rintro e w' ⟨rfl, rfl⟩; exact ⟨rfl, _, rfl⟩))
      go_wp2_with fail
      go_roundw
      case rel => exact ⟨k + 1, by go_num, by omega, by rw [take_nums zs k (by rw [HN.out]; exact hlt), BB.out, Z.out], _, rfl⟩
      case measure => simp [intOf]; omega
    · have hkn : k = n := by omega
      subst hkn
      have E : Hid (nums (zs.take k) = nums zs) := by show nums (zs.take k) = nums zs; rw [← HN.out, List.take_length]
      go_wp2_with fail
      go_ret
      exact ⟨by rw [E.out]; rfl, below_drewN (BH.out _) q⟩

set_option maxHeartbeats 400000 in
theorem iIsMat (r c : Int) (a : Option Addr) (cap : Nat) (zs : List Int) (w : World) (h : Rd w a zs) (hn : zs.length ≤ 16777216) :
    Calls Try.prog 58 #[.agg #[.int .i64 r, .int .i64 c, .slice a zs.length cap]] w (Gives (.bool (isMat r c zs)) w) := by
  have B0 : ∀ o, Below w.heap.size w (w.alloc o) := fun o => (Below.refl _ _).alloc (Nat.le_refl _) o
  have BH := Lib.hid B0
  have H := Lib.hid h
  clear h B0
  obtain ⟨n, hnn⟩ : ∃ n, zs.length = n := ⟨_, rfl⟩
  have HN := Lib.hid hnn
  have ED : isMat r c zs = (decide (SizeP r) && decide (SizeP c) && decide ((n : Int) = r * c) && nums zs) := by unfold isMat; rw [hnn]
  have E := Lib.hid ED
  rw [hnn] at hn ⊢
  clear hnn ED
  by_cases hr : 0 ≤ r ∧ r ≤ 24
  · by_cases hc : 0 ≤ c ∧ c ≤ 24
    · obtain ⟨m1, m2⟩ := mul_size r c hr hc
      by_cases hl : (n : Int) = r * c
      · have l1 : ((n : Int) != r * c) = false := by simpa using hl
        have l2 : ((n : Int) == r * c) = true := by simpa using hl
        have E2 : Hid (isMat r c zs = nums zs) := by
          show isMat r c zs = nums zs
          rw [E.out, show decide (SizeP r) = true from decide_eq_true hr, show decide (SizeP c) = true from decide_eq_true hc, show decide ((n : Int) = r * c) = true from decide_eq_true hl]; rfl
        have hz : zs.length = 0 ∨ 0 < c := by
          rw [HN.out]
          rcases Nat.eq_zero_or_pos n with e | e
          · exact .inl e
          · right
            rcases Int.lt_or_lt_of_ne (a := c) (b := 0) (fun e0 => by rw [e0, Int.mul_zero] at hl; omega) with h | h <;> omega
        have HZ := Lib.hid hz
        clear hl hz
        obtain ⟨r1, r2⟩ := hr
        obtain ⟨c1, c2⟩ := hc
        go_enter Try.func58, Try.ntmps58
        go_wp2_with (go_at_call 112; refine (iSize_t _ _ (by omega) (by omega)).mono ?_; rintro e w' ⟨rfl, rfl⟩)
        have ST := iFoldB r c a cap zs _ (H.out.below (BH.out (.cells #[.int .i64 r, .int .i64 c, .slice a n cap] 26))) (by rw [HN.out]; exact hn) HZ.out
        rw [HN.out] at ST
        refine ST.mono ?_
        clear ST
        rintro e w' ⟨rfl, hb⟩
        have HB := Lib.hid ((BH.out _).trans (hb.mono (BH.out (.cells #[.int .i64 r, .int .i64 c, .slice a n cap] 26)).size))
        clear hb
        go_wp2_with fail
        go_ret
        exact ⟨by rw [E2.out]; rfl, HB.out⟩
      · have l1 : ((n : Int) != r * c) = true := by simpa using hl
        have l2 : ((n : Int) == r * c) = false := by simpa using hl
        have E2 : Hid (isMat r c zs = false) := by
          show isMat r c zs = false
          rw [E.out, show decide ((n : Int) = r * c) = false from decide_eq_false hl]; simp
        clear hl
        obtain ⟨r1, r2⟩ := hr
        obtain ⟨c1, c2⟩ := hc
        go_enter Try.func58, Try.ntmps58
        go_wp2_with (go_at_call 112; refine (iSize_t _ _ (by omega) (by omega)).mono ?_; rintro e w' ⟨rfl, rfl⟩)
        go_ret
        exact ⟨by rw [E2.out]; rfl, BH.out _⟩
    · have E2 : Hid (isMat r c zs = false) := by
        show isMat r c zs = false
        rw [E.out, show decide (SizeP c) = false from decide_eq_false hc]; simp
      have hc' : c < 0 ∨ 24 < c := by omega
      clear hc
      go_enter Try.func58, Try.ntmps58
      go_wp2_with fail
      refine (iSize_t r _ hr.1 hr.2).mono ?_
      rintro e w' ⟨rfl, rfl⟩
      go_wp2_with fail
      refine (iSize_f c _ hc').mono ?_
      rintro e w' ⟨rfl, rfl⟩
      go_wp2_with fail
      go_ret
      exact ⟨by rw [E2.out]; rfl, BH.out _⟩
  · have E2 : Hid (isMat r c zs = false) := by
      show isMat r c zs = false
      rw [E.out, show decide (SizeP r) = false from decide_eq_false hr]; simp
    have hr' : r < 0 ∨ 24 < r := by omega
    clear hr
    go_enter Try.func58, Try.ntmps58
    go_wp2_with fail
    refine (iSize_f r _ hr').mono ?_
    rintro e w' ⟨rfl, rfl⟩
    go_wp2_with fail
    go_ret
    exact ⟨by rw [E2.out]; rfl, BH.out _⟩
end Go.Proofs.Ytpelnfenfeoeeaa
