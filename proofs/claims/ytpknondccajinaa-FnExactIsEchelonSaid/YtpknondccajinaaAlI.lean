/-
  Chapter 7, in the program: whether a row alone has something in a column, of the rows from one on.
-/
import Derived.Test.YtpknondccajinaaLdI
import Derived.Test.YtpknondccajinaaEchJ
namespace Go.Proofs.Ytpknondccajinaa
set_option maxRecDepth 100000
open Go.RowKit

set_option maxHeartbeats 1000000 in
theorem iAloneF (r c N t i l : Nat) (a : Option Addr) (m : Nat) (xs : List Int) (w : World) (h : Rd w a xs) (hx : xs.length = N) (hN : N = r * c) (hr : r ≤ 24) (hc : c ≤ 24) (hl : l < c) (ht : t ≤ r) (b : Bool) (hb : b = true ↔ ∀ k, t ≤ k → k < r → k ≠ i → mxC c xs k l = 0) :
    Calls Try.prog 53 #[.agg #[.int .i64 r, .int .i64 c, .slice a N m], .int .i64 t, .int .i64 i, .int .i64 l] w (Gives (.bool b) w) := by
  have hle : r * c ≤ 24 * 24 := Nat.mul_le_mul hr hc
  rw [← hN] at hle
  have IX : Hid (∀ k, k < r → ∃ P : Nat, k * c + l = P ∧ P < N ∧ IntKind.i64.wrap ((k : Int) * (c : Int)) = (k : Int) * (c : Int) ∧ IntKind.i64.wrap ((k : Int) * (c : Int) + (l : Int)) = (P : Int)) := fun k hk => by
    have h1 : k * c + l < r * c := idx_lt hk hl
    have c1 : (k : Int) * (c : Int) = ((k * c : Nat) : Int) := (Int.natCast_mul _ _).symm
    refine ⟨k * c + l, rfl, by omega, IntWalk.i64_in _ (by rw [c1]; omega), ?_⟩
    rw [show (k : Int) * (c : Int) + (l : Int) = ((k * c + l : Nat) : Int) by rw [c1]; omega]
    exact IntWalk.i64_in _ (by omega)
  have BW : Hid (Below w.heap.size w (w.alloc (.cells #[.int .i64 r, .int .i64 c, .slice a N m] 26))) := (Below.refl _ _).alloc (Nat.le_refl _) _
  have K0 : Hid (Blk3 (w.alloc (.cells #[.int .i64 r, .int .i64 c, .slice a N m] 26)) w.heap.size 26 (.int .i64 r) (.int .i64 c) (.slice a N m)) := Blk3.at_ _ _ _ _ rfl
  have CX : Hid (∀ k P, k < r → k * c + l = P → ∃ b o : Nat, a = some ⟨b, o, none⟩ ∧ (w.alloc (.cells #[.int .i64 r, .int .i64 c, .slice a N m] 26)).cell? ⟨b, o + P, none⟩ = some (.int .i64 (mxC c xs k l))) := fun k P hk hP => by
    subst hP
    exact h.below BW.out _ (by rw [hx, hN]; exact idx_lt hk hl)
  have HB := Lib.hid hb
  clear hN hx h hb
  go_enter Try.func53, Try.ntmps53
  go_wp2_with fail
  generalize w.alloc (.cells #[.int .i64 r, .int .i64 c, .slice a N m] 26) = W at BW K0 CX
  obtain ⟨p0, p1, p2, -, -, -⟩ := K0.out.all
  go_wp2_with fail
  go_loopw [8, 9] (fun _ v9 wq => ∃ k : Nat, v9 = .int .i64 k ∧ t ≤ k ∧ k ≤ r ∧ (∀ p, t ≤ p → p < k → p ≠ i → mxC c xs p l = 0) ∧ wq = W) (fun _ v9 _ => r - (intOf v9).toNat)
  case atStart => exact ⟨t, rfl, Nat.le_refl _, ht, fun p h1 h2 => by omega, rfl⟩
  case round =>
    obtain ⟨k, rfl, htk, hk, hz, rfl⟩ := hrel
    have Z := Lib.hid hz
    clear hz
    by_cases hkr : k < r
    · by_cases hki : k = i
      · have n1 : ((k : Int) != (i : Int)) = false := by simp [hki]
        have Z1 : Hid (∀ p, t ≤ p → p < k + 1 → p ≠ i → mxC c xs p l = 0) := fun p h0 h1 h2 => Z.out p h0 (by omega) h2
        clear hki
        go_wp2_with fail
        go_roundw
        case rel => exact ⟨k + 1, by go_num, by omega, by omega, Z1.out, trivial⟩
        case measure => simp [intOf]; omega
      · have n1 : ((k : Int) != (i : Int)) = true := by simp; omega
        obtain ⟨P, hP, hPN, u1, u2⟩ := IX.out k hkr
        have Pa : (0 : Int) ≤ (P : Int) := by omega
        have Pb : (P : Int) < (N : Int) := by omega
        obtain ⟨g, o, rfl, hcell⟩ := CX.out k P hkr hP
        obtain ⟨x, hxx⟩ : ∃ x, mxC c xs k l = x := ⟨_, rfl⟩
        have X := Lib.hid hxx
        rw [hxx] at hcell
        clear hxx hP
        by_cases h0 : x = 0
        · have n2 : (x != 0) = false := by simp [h0]
          have n3 : (x == 0) = true := by simp [h0]
          have Z1 : Hid (∀ p, t ≤ p → p < k + 1 → p ≠ i → mxC c xs p l = 0) := fun p h4 h1 h2 => by
            rcases Nat.lt_or_ge p k with h3 | h3
            · exact Z.out p h4 h3 h2
            · obtain rfl : p = k := by omega
              rw [X.out, h0]
          clear h0 hki
          go_wp2_with fail
          go_roundw
          case rel => exact ⟨k + 1, by go_num, by omega, by omega, Z1.out, trivial⟩
          case measure => simp [intOf]; omega
        · have n2 : (x != 0) = true := by simpa using h0
          have n3 : (x == 0) = false := by simpa using h0
          have FB : Hid (b = false) := by
            show b = false
            cases b with
            | false => rfl
            | true => exact absurd (HB.out.mp rfl k htk hkr hki) (by rw [X.out]; exact h0)
          clear h0 hki
          go_wp2_with fail
          go_ret
          exact ⟨by rw [FB.out]; rfl, BW.out⟩
    · obtain rfl : r = k := by omega
      clear hkr
      have TB : Hid (b = true) := HB.out.mpr fun p h0 h1 h2 => Z.out p h0 h1 h2
      go_wp2_with fail
      go_ret
      exact ⟨by rw [TB.out]; rfl, BW.out⟩
end Go.Proofs.Ytpknondccajinaa
