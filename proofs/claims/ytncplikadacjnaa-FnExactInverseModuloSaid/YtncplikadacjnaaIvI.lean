/-
  Chapter 8, in the program: InverseModulo; a row divided by a pivot; a row without its cell in the pivot's column.
-/
import Derived.Test.YtncplikadacjnaaPrI3
import Derived.Test.YtncplikadacjnaaNumIDiv
import Derived.Test.YtncplikadacjnaaMdS
namespace Go.Proofs.Ytncplikadacjnaa
set_option maxRecDepth 100000
open Go.RowKit

/-- The combination that ExtendedGcd makes of any number and a prime. -/
theorem ext_any {p a : Int} (hp : Prm p) (hp2 : p ≤ 10000) (ha : NumP a) (hn : a % p ≠ 0) : ∃ x z : Int, egAns a p = (1, x, z) ∧ invF p (a % p) = x % p ∧ -400000000 ≤ x ∧ x ≤ 400000000 := by
  have hp1 := hp.1
  obtain ⟨x, z, e, hxz, b1, b2, -, -⟩ := egAns_is a p ha ⟨by omega, by omega⟩
  have hnd : ¬ p ∣ a := fun h => hn (Int.emod_eq_zero_of_dvd h)
  have hg : (Int.gcd a p : Int) = 1 := by have := hp.gcd hnd; omega
  rw [hg] at e hxz
  refine ⟨x, z, e, invF_ext (y := z + a / p * x) (g := 1) hp ?_ rfl, b1, b2⟩
  rw [Int.emod_def]
  grind
/-- .. of a multiple of the prime: its divisor is not 1. -/
theorem ext_mult {p a : Int} (hp : Prm p) (hp2 : p ≤ 10000) (ha : NumP a) (hn : a % p = 0) : ∃ g x z : Int, egAns a p = (g, x, z) ∧ g ≠ 1 := by
  have hp1 := hp.1
  obtain ⟨x, z, e, hxz, -, -, -, -⟩ := egAns_is a p ha ⟨by omega, by omega⟩
  refine ⟨_, x, z, e, fun h1 => ?_⟩
  have hdv : p ∣ (Int.gcd a p : Int) := by
    rw [← hxz]
    exact Int.dvd_add (Int.dvd_trans (Int.dvd_of_emod_eq_zero hn) (Int.dvd_mul_right a x)) (Int.dvd_mul_right p z)
  rw [h1] at hdv
  have := Int.le_of_dvd (by omega) hdv
  omega
theorem iInvM (a p : Int) (w : World) : Calls Try.prog 36 #[.int .i64 a, .int .i64 p] w fun e w' => e = .returned (.tuple #[.int .i64 (ivM p a).1, .bool (ivM p a).2]) ∧ Below w.heap.size w w' := by
  rcases Bool.eq_false_or_eq_true (prmB p) with h1 | h1
  · obtain ⟨hp, hp2⟩ := prmB_says h1
    have hp1 := hp.1
    have np : p ≠ 0 := by omega
    have P1 := Lib.hid h1
    by_cases h2 : NumP a
    · by_cases h3 : a % p = 0
      · have V := Lib.hid (ivM_no3 h3)
        obtain ⟨g, x, z, hx, hg⟩ := ext_mult hp hp2 h2 h3
        have HX : Hid (egVal (egAns a p) = .tuple #[.int .i64 g, .int .i64 x, .int .i64 z, .bool true]) := by show _ = _; rw [hx]; rfl
        have n1 : (g != 1) = true := by simpa using hg
        clear h1 h3 hp hx hg
        go_enter Try.func36, Try.ntmps36
        go_wp2_with fail
        refine (iPrime p _).mono ?_
        rintro e w1 ⟨rfl, hb1⟩
        rw [P1.out]
        go_wp2_with fail
        refine (iExt a p _ h2 ⟨by omega, by omega⟩).mono ?_
        rintro e w2 ⟨rfl, hb2⟩
        have B := Lib.hid (hb1.trans (hb2.mono hb1.size))
        clear hb1 hb2
        rw [HX.out]
        go_wp2_with fail
        exact bodyPost_ret (v := .tuple #[.int .i64 0, .bool false]) (by simp [results, Try.results36, go_sem]) rfl ⟨by rw [V.out], B.out⟩
      · have V := Lib.hid (ivM_yes h1 h2 rfl h3)
        obtain ⟨x, z, hx, hi, b1, b2⟩ := ext_any hp hp2 h2 h3
        have HI := Lib.hid hi
        have HX : Hid (egVal (egAns a p) = .tuple #[.int .i64 1, .int .i64 x, .int .i64 z, .bool true]) := by show _ = _; rw [hx]; rfl
        clear h1 h3 hp hi hx
        go_enter Try.func36, Try.ntmps36
        go_wp2_with fail
        refine (iPrime p _).mono ?_
        rintro e w1 ⟨rfl, hb1⟩
        rw [P1.out]
        go_wp2_with fail
        refine (iExt a p _ h2 ⟨by omega, by omega⟩).mono ?_
        rintro e w2 ⟨rfl, hb2⟩
        have B := Lib.hid (hb1.trans (hb2.mono hb1.size))
        clear hb1 hb2
        rw [HX.out]
        go_wp2_with fail
        refine (iDiv x p _ b1 b2 (by omega) (by omega) np).mono ?_
        rintro e w3 ⟨rfl, n, rfl⟩
        have B2 := Lib.hid (below_drewN B.out n)
        go_wp2_with fail
        exact bodyPost_ret (v := .tuple #[.int .i64 (x % p), .bool true]) (by simp [results, Try.results36, go_sem]) rfl ⟨by rw [V.out, ← HI.out], B2.out⟩
    · have V := Lib.hid (ivM_no2 (p := p) h2)
      have h2' : ¬ ((-400000000 ≤ a ∧ a ≤ 400000000) ∧ (-400000000 ≤ p ∧ p ≤ 400000000)) := fun h => h2 h.1
      clear h1 h2 hp
      go_enter Try.func36, Try.ntmps36
      go_wp2_with fail
      refine (iPrime p _).mono ?_
      rintro e w1 ⟨rfl, hb1⟩
      rw [P1.out]
      go_wp2_with fail
      refine (iExt_f a p _ h2').mono ?_
      rintro e w2 ⟨rfl, rfl⟩
      go_wp2_with fail
      exact bodyPost_ret (v := .tuple #[.int .i64 0, .bool false]) (by simp [results, Try.results36, go_sem]) rfl ⟨by rw [V.out], hb1⟩
  · have V := Lib.hid (ivM_no1 (a := a) h1)
    have P1 := Lib.hid h1
    clear h1
    go_enter Try.func36, Try.ntmps36
    go_wp2_with fail
    refine (iPrime p _).mono ?_
    rintro e w1 ⟨rfl, hb1⟩
    rw [P1.out]
    go_wp2_with fail
    exact bodyPost_ret (v := .tuple #[.int .i64 0, .bool false]) (by simp [results, Try.results36, go_sem]) rfl ⟨by rw [V.out], hb1⟩
end Go.Proofs.Ytncplikadacjnaa
