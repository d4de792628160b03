/-
  Chapter 8, in the model: residues from 0 on, IsPrime, InverseModulo.
-/
import Derived.Test.YtncplikadacjnaaModB
import Derived.Test.YtncplikadacjnaaRowS
import Derived.Test.YtncplikadacjnaaNumExt
import Derived.StillTailTactics
namespace Go.Proofs.Ytncplikadacjnaa
set_option maxRecDepth 100000
open Go.RowKit

theorem tmod_in {n p : Int} (hp : 0 < p) : -p < n.tmod p ∧ n.tmod p < p := by
  refine ⟨?_, Int.tmod_lt_of_pos n hp⟩
  have h1 := Int.tmod_lt_of_pos (-n) hp
  rw [Int.neg_tmod] at h1
  omega
theorem sMod (n p : Int) (w : World) (hp : 0 < p) (hp2 : p ≤ 1000000000) :
    Calls Try.prog 70 #[.int .i64 n, .int .i64 p] w fun e w' => e = .returned (.int .i64 (n % p)) ∧ w = w' := by
  have t1 := tmod_in (n := n) hp
  have E : Hid ((n.tmod p + p) % p = n % p) := by
    show _ = _
    rw [← mod_go (n := n) hp, Int.tmod_eq_emod_of_nonneg (a := n.tmod p + p) (by omega)]
  have h0 : (p == 0) = false := by simp; omega
  go_enter Try.func70, Try.ntmps70
  go_wp2_with fail
  go_ret
  exact ⟨by show Ending.returned (Value.int .i64 ((n.tmod p + p) % p)) = _; rw [E.out], rfl⟩
theorem sPrime (p : Int) (w : World) : Calls Try.prog 27 #[.int .i64 p] w fun e w' => e = .returned (.bool (prmB p)) ∧ w = w' := by
  by_cases h : 2 ≤ p ∧ p ≤ 10000
  · have FB : Hid (∀ d : Nat, 2 ≤ d → (d : Int) * (d : Int) ≤ p → (d : Int) ∣ p → prmB p = false) := fun d => prmB_div
    have FT : Hid ((∀ d : Nat, 2 ≤ d → (d : Int) * (d : Int) ≤ p → ¬ (d : Int) ∣ p) → prmB p = true) := prmB_true h
    generalize prmB p = b at FB FT ⊢
    obtain ⟨h1, h2⟩ := h
    go_enter Try.func27, Try.ntmps27
    go_wp2_with fail
    refine (sIn_t p 2 10000 _ h1 h2).mono ?_
    rintro e w' ⟨rfl, rfl⟩
    go_wp2_with fail
    go_loopw [3] (fun v3 wr => ∃ d : Nat, v3 = .int .i64 d ∧ 2 ≤ d ∧ d ≤ 101 ∧ (∀ k : Nat, 2 ≤ k → k < d → (k : Int) * (k : Int) ≤ p → ¬ (k : Int) ∣ p) ∧ wr = w) (fun v3 _ => 200 - (intOf v3).toNat)
    case atStart => exact ⟨2, rfl, by omega, by omega, fun k _ h => by omega, rfl⟩
    case round =>
      obtain ⟨d, rfl, d1, d2, hd, rfl⟩ := hrel
      have HD := Lib.hid hd
      clear hd
      have q0 : (d : Int) * (d : Int) = ((d * d : Nat) : Int) := (Int.natCast_mul _ _).symm
      have q1 : d * d ≤ 101 * 101 := Nat.mul_le_mul d2 d2
      have Q := Lib.hid q0
      obtain ⟨q, hq⟩ : ∃ q, d * d = q := ⟨_, rfl⟩
      have HQ := Lib.hid hq
      rw [hq] at q0 q1
      have w1 : IntKind.i64.wrap ((d : Int) * (d : Int)) = (q : Int) := by rw [q0]; exact IntWalk.i64_in _ (by omega)
      clear q0 hq
      by_cases hp : (q : Int) ≤ p
      · have d3 : d ≤ 100 := by
          rcases Nat.lt_or_ge 100 d with h | h
          · have : 101 * 101 ≤ d * d := Nat.mul_le_mul h h
            have := HQ.out
            omega
          · exact h
        have n0 : ((d : Int) == 0) = false := by simp; omega
        have X : Hid ((d : Int) ∣ p ↔ p % (d : Int) = 0) := ⟨Int.emod_eq_zero_of_dvd, Int.dvd_of_emod_eq_zero⟩
        by_cases h0 : p % (d : Int) = 0
        · have n1 : (p % (d : Int) == 0) = true := by simp [h0]
          have R : Hid (b = false) := FB.out d d1 (by rw [Q.out, HQ.out]; exact hp) (X.out.mpr h0)
          clear h0
          go_wp2_with fail
          go_ret
          exact ⟨by rw [R.out]; rfl, rfl⟩
        · have n1 : (p % (d : Int) == 0) = false := by simpa using h0
          have ND : Hid (¬ (d : Int) ∣ p) := fun hdv => h0 (X.out.mp hdv)
          have HD2 : Hid (∀ k : Nat, 2 ≤ k → k < d + 1 → (k : Int) * (k : Int) ≤ p → ¬ (k : Int) ∣ p) := fun k k1 k2 k3 => by
            rcases Nat.lt_or_ge k d with h | h
            · exact HD.out k k1 h k3
            · obtain rfl : k = d := by omega
              exact ND.out
          clear h0
          go_wp2_with fail
          go_roundw
          case rel => exact ⟨d + 1, by go_num, by omega, by omega, HD2.out, trivial⟩
          case measure => simp [intOf]; omega
      · have R : Hid (b = true) := FT.out fun k k1 k2 => by
          rcases Nat.lt_or_ge k d with h | h
          · exact HD.out k k1 h k2
          · have h3 : d * d ≤ k * k := Nat.mul_le_mul h h
            have h4 := HQ.out
            rw [← Int.natCast_mul] at k2
            have h5 : ((d * d : Nat) : Int) ≤ ((k * k : Nat) : Int) := Int.ofNat_le.mpr h3
            rw [h4] at h5
            omega
        go_wp2_with fail
        go_ret
        exact ⟨by rw [R.out]; rfl, rfl⟩
  · have E : Hid (prmB p = false) := prmB_out (by omega)
    have h' : p < 2 ∨ 10000 < p := by omega
    clear h
    go_enter Try.func27, Try.ntmps27
    go_wp2_with fail
    refine (sIn_f p 2 10000 _ h').mono ?_
    rintro e w' ⟨rfl, rfl⟩
    go_wp2_with fail
    go_ret
    exact ⟨by rw [E.out]; rfl, rfl⟩
theorem ivM_no1 {p a : Int} (h : prmB p = false) : ivM p a = (0, false) := by unfold ivM; rw [h]; rfl
theorem ivM_no2 {p a : Int} (h : ¬ NumP a) : ivM p a = (0, false) := by unfold ivM; rw [decide_eq_false h, Bool.and_false, Bool.false_and]; rfl
theorem ivM_no3 {p a : Int} (h : a % p = 0) : ivM p a = (0, false) := by unfold ivM; rw [decide_eq_false (by omega : ¬ a % p ≠ 0), Bool.and_false]; rfl
theorem ivM_yes {p a y : Int} (h1 : prmB p = true) (h2 : NumP a) (h : a % p = y) (h3 : y ≠ 0) : ivM p a = (invF p y, true) := by
  unfold ivM
  rw [h1, decide_eq_true h2, h, decide_eq_true h3]; rfl
/-- The combination that ExtendedGcd makes of a residue that is not 0 and the prime. -/
theorem ext_res {p y : Int} (hp : Prm p) (hp2 : p ≤ 10000) (h0 : 0 ≤ y) (hy : y < p) (hn : y ≠ 0) : ∃ x z : Int, egAns y p = (1, x, z) ∧ invF p y = x % p ∧ -400000000 ≤ x ∧ x ≤ 400000000 := by
  have hp1 := hp.1
  obtain ⟨x, z, e, hxz, b1, b2, -, -⟩ := egAns_is y p ⟨by omega, by omega⟩ ⟨by omega, by omega⟩
  have hg : (Int.gcd y p : Int) = 1 := by have := hp.gcd (can_nd ⟨h0, hy⟩ hn); omega
  rw [hg] at e hxz
  exact ⟨x, z, e, invF_ext hp hxz rfl, b1, b2⟩
theorem sInvM (a p : Int) (w : World) : Calls Try.prog 35 #[.int .i64 a, .int .i64 p] w fun e w' => e = .returned (.tuple #[.int .i64 (ivM p a).1, .bool (ivM p a).2]) ∧ ∃ n, w' = w.drewN n := by
  have W0 : Hid (∃ n, w = w.drewN n) := ⟨0, rfl⟩
  rcases Bool.eq_false_or_eq_true (prmB p) with h1 | h1
  · obtain ⟨hp, hp2⟩ := prmB_says h1
    have hp1 := hp.1
    have P1 := Lib.hid h1
    by_cases h2 : NumP a
    · obtain ⟨y, hy⟩ : ∃ y, a % p = y := ⟨_, rfl⟩
      have Y := Lib.hid hy
      by_cases h3 : y = 0
      · have V : Hid (ivM p a = (0, false)) := ivM_no3 (by rw [hy, h3])
        have n3 : (y == 0) = true := by simp [h3]
        clear h1 h3 hy hp
        go_enter Try.func35, Try.ntmps35
        go_wp2_with fail
        refine (sPrime p _).mono ?_
        rintro e w' ⟨rfl, rfl⟩
        rw [P1.out]
        go_wp2_with fail
        refine (sIsNum_t a _ h2.1 h2.2).mono ?_
        rintro e w' ⟨rfl, rfl⟩
        go_wp2_with fail
        refine (sMod a p _ (by omega) (by omega)).mono ?_
        rintro e w' ⟨rfl, rfl⟩
        rw [Y.out]
        go_wp2_with fail
        exact bodyPost_ret (v := .tuple #[.int .i64 0, .bool false]) (by simp [results, Try.results35, go_sem]) rfl ⟨by rw [V.out], W0.out⟩
      · have V := Lib.hid (ivM_yes h1 h2 hy h3)
        have n3 : (y == 0) = false := by simpa using h3
        have y0 : 0 ≤ y := by rw [← hy]; exact Int.emod_nonneg _ (by omega)
        have y1 : y < p := by rw [← hy]; exact Int.emod_lt_of_pos _ (by omega)
        obtain ⟨x, z, hx, hi, b1, b2⟩ := ext_res hp hp2 y0 y1 h3
        have HI := Lib.hid hi
        have HX : Hid (egVal (egAns y p) = .tuple #[.int .i64 1, .int .i64 x, .int .i64 z, .bool true]) := by show _ = _; rw [hx]; rfl
        clear h1 h3 hy hp hi hx
        go_enter Try.func35, Try.ntmps35
        go_wp2_with fail
        refine (sPrime p _).mono ?_
        rintro e w' ⟨rfl, rfl⟩
        rw [P1.out]
        go_wp2_with fail
        refine (sIsNum_t a _ h2.1 h2.2).mono ?_
        rintro e w' ⟨rfl, rfl⟩
        go_wp2_with fail
        refine (sMod a p _ (by omega) (by omega)).mono ?_
        rintro e w' ⟨rfl, rfl⟩
        rw [Y.out]
        go_wp2_with fail
        refine (sMod a p _ (by omega) (by omega)).mono ?_
        rintro e w' ⟨rfl, rfl⟩
        rw [Y.out]
        go_wp2_with fail
        refine (sExt y p _ ⟨by omega, by omega⟩ ⟨by omega, by omega⟩).mono ?_
        rintro e w' ⟨rfl, n, rfl⟩
        rw [HX.out]
        go_wp2_with fail
        refine (sMod x p _ (by omega) (by omega)).mono ?_
        rintro e w' ⟨rfl, rfl⟩
        go_wp2_with fail
        exact bodyPost_ret (v := .tuple #[.int .i64 (x % p), .bool true]) (by simp [results, Try.results35, go_sem]) rfl ⟨by rw [V.out, ← HI.out], n, rfl⟩
    · have V := Lib.hid (ivM_no2 (p := p) h2)
      have h2' : a < -400000000 ∨ 400000000 < a := by unfold NumP at h2; omega
      clear h1 h2 hp
      go_enter Try.func35, Try.ntmps35
      go_wp2_with fail
      refine (sPrime p _).mono ?_
      rintro e w' ⟨rfl, rfl⟩
      rw [P1.out]
      go_wp2_with fail
      refine (sIsNum_f a _ h2').mono ?_
      rintro e w' ⟨rfl, rfl⟩
      go_wp2_with fail
      exact bodyPost_ret (v := .tuple #[.int .i64 0, .bool false]) (by simp [results, Try.results35, go_sem]) rfl ⟨by rw [V.out], W0.out⟩
  · have V := Lib.hid (ivM_no1 (a := a) h1)
    have P1 := Lib.hid h1
    clear h1
    go_enter Try.func35, Try.ntmps35
    go_wp2_with fail
    refine (sPrime p _).mono ?_
    rintro e w' ⟨rfl, rfl⟩
    rw [P1.out]
    go_wp2_with fail
    exact bodyPost_ret (v := .tuple #[.int .i64 0, .bool false]) (by simp [results, Try.results35, go_sem]) rfl ⟨by rw [V.out], W0.out⟩
end Go.Proofs.Ytncplikadacjnaa
