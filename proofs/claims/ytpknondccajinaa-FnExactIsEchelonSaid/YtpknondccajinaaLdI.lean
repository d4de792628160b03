/-
  Chapter 7, in the program: a row's first cell with something, and what the row is divided by.
-/
import Derived.Test.YtpknondccajinaaRwI
import Derived.Test.YtpknondccajinaaSgMath
import Derived.Test.YtpknondccajinaaNumGD
import Derived.Deep.DeepCutAuto
import Derived.IntWalk
namespace Go.Proofs.Ytpknondccajinaa
set_option maxRecDepth 100000
open Go.RowKit

theorem iLead (c cap : Nat) (q : Option Addr) (v : Nat → Int) (w : World) (h : Rd w q (rwL c v)) (hc : c ≤ 24) :
    Calls Try.prog 52 #[.slice q c cap] w (fun e w' => e = .returned (.int .i64 (leadC c v : Int)) ∧ w' = w) := by
  have RX : Hid (∀ j, j < c → ∃ b o : Nat, q = some ⟨b, o, none⟩ ∧ w.cell? ⟨b, o + j, none⟩ = some (.int .i64 (v j))) := fun j hj => by
    have := h j (by rw [rwL_length]; exact hj)
    rw [rwL_at hj] at this
    exact this
  clear h
  go_enter Try.func52, Try.ntmps52
  go_wp2_with fail
  go_loopw [3, 4, 7] (fun _ _ v7 wr => ∃ j : Nat, v7 = .int .i64 j ∧ j ≤ c ∧ (∀ i, i < j → v i = 0) ∧ wr = w) (fun _ _ v7 _ => c - (intOf v7).toNat)
  case atStart => exact ⟨0, rfl, by omega, fun i hi => by omega, rfl⟩
  case round =>
    obtain ⟨j, rfl, hj, hz, rfl⟩ := hrel
    have Z := Lib.hid hz
    clear hz
    by_cases hlt : j < c
    · obtain ⟨b, o, rfl, hcell⟩ := RX.out j hlt
      obtain ⟨x, hx⟩ : ∃ x, v j = x := ⟨_, rfl⟩
      have X := Lib.hid hx
      rw [hx] at hcell
      clear hx
      by_cases h0 : x = 0
      · have n1 : (x != 0) = false := by simp [h0]
        have n2 : (x == 0) = true := by simp [h0]
        have Z1 : Hid (∀ i, i < j + 1 → v i = 0) := fun i hi => by
          rcases Nat.lt_or_ge i j with h1 | h1
          · exact Z.out i h1
          · obtain rfl : i = j := by omega
            rw [X.out, h0]
        clear h0
        go_wp2_with fail
        go_roundw
        case rel => exact ⟨j + 1, by go_num, by omega, Z1.out, trivial⟩
        case measure => simp [intOf]; omega
      · have n1 : (x != 0) = true := by simpa using h0
        have n2 : (x == 0) = false := by simpa using h0
        have L : Hid (leadC c v = j) := leadF_eq (Nat.zero_le _) (by omega) (fun i _ hi => Z.out i hi) (fun _ => by rw [X.out]; exact h0)
        clear h0
        go_wp2_with fail
        go_ret
        exact ⟨by rw [L.out]; rfl, rfl⟩
    · obtain rfl : c = j := by omega
      have L : Hid (leadC c v = c) := leadF_eq (Nat.zero_le _) (by omega) (fun i _ hi => Z.out i hi) (fun h => by omega)
      go_wp2_with fail
      go_ret
      exact ⟨by rw [L.out]; rfl, rfl⟩
theorem iSgD (c cap : Nat) (q : Option Addr) (v : Nat → Int) (w : World) (h : Rd w q (rwL c v)) (hc : c ≤ 24) (hv : ∀ j, j < c → NumP (v j)) :
    Calls Try.prog 40 #[.slice q c cap] w (fun e w' => e = .returned (.int .i64 (sgD c v)) ∧ ∃ n, w' = w.drewN n) := by
  have LD : Hid (Calls Try.prog 52 #[.slice q c cap] w (fun e w' => e = .returned (.int .i64 (leadC c v : Int)) ∧ w' = w)) := iLead c cap q v w h hc
  have RX : Hid (∀ j n, j < c → ∃ b o : Nat, q = some ⟨b, o, none⟩ ∧ (w.drewN n).cell? ⟨b, o + j, none⟩ = some (.int .i64 (v j))) := fun j n hj => by
    have := h.drewN n j (by rw [rwL_length]; exact hj)
    rw [rwL_at hj] at this
    exact this
  have VN := Lib.hid hv
  obtain ⟨l1, -, -⟩ := leadC_says c v
  have SE : Hid (leadC c v = c → sgD c v = 1) := sgD_end
  have SL : Hid (leadC c v < c → sgD c v = if v (leadC c v) < 0 then -gcdN c v else gcdN c v) := sgD_lead
  have GB := gcdN_num (n := c) (f := v) hv
  unfold NumP at GB
  generalize leadC c v = l at LD l1 SE SL
  clear h hv
  go_enter Try.func40, Try.ntmps40
  go_wp2_with fail
  refine LD.out.mono ?_
  rintro e w1 ⟨rfl, rfl⟩
  by_cases hl : l = c
  · have n1 : ((l : Int) == (c : Int)) = true := by simp [hl]
    have S1 := Lib.hid (SE.out hl)
    clear hl
    go_wp2_with fail
    go_ret
    exact ⟨by rw [S1.out]; rfl, 0, rfl⟩
  · have n1 : ((l : Int) == (c : Int)) = false := by simp; omega
    have hlc : l < c := by omega
    have S1 := Lib.hid (SL.out hlc)
    clear hl SE SL
    go_wp2_with fail
    go_loopw [4, 6, 15] (fun v4 _ v15 wr => ∃ j n : Nat, v15 = .int .i64 j ∧ j ≤ c ∧ v4 = .int .i64 (gcdN j v) ∧ wr = w1.drewN n) (fun _ _ v15 _ => c - (intOf v15).toNat)
    case atStart => exact ⟨0, 0, rfl, by omega, rfl, rfl⟩
    case round =>
      obtain ⟨j, n, rfl, hj, rfl, rfl⟩ := hrel
      by_cases hlt : j < c
      · obtain ⟨b, o, rfl, hcell⟩ := RX.out j n hlt
        have hb := VN.out j hlt
        have hg := gcdN_num (n := j) (f := v) (fun k hk => VN.out k (by omega))
        have GS : Hid (gcdN (j + 1) v = ((gcdN j v).gcd (v j) : Int)) := rfl
        generalize gcdN j v = gg at hg GS
        generalize v j = x at hcell hb GS
        unfold NumP at hb hg
        go_wp2_with fail
        refine (iGD gg x _ (by omega) (by omega)).mono ?_
        rintro e w2 ⟨rfl, k, rfl⟩
        go_wp2_with fail
        go_roundw
        case rel => exact ⟨j + 1, n + k, by go_num, by omega, by first | (rw [GS.out]; done) | (rw [GS.out]; simp), by first | rfl | rw [World.drewN_drewN]⟩
        case measure => simp [intOf]; omega
      · obtain rfl : c = j := by omega
        clear hlt
        obtain ⟨b, o, rfl, hcell⟩ := RX.out l n hlc
        obtain ⟨x, hx⟩ : ∃ x, v l = x := ⟨_, rfl⟩
        rw [hx] at hcell S1
        clear hx
        obtain ⟨gg, hgg⟩ : ∃ gg, gcdN c v = gg := ⟨_, rfl⟩
        rw [hgg] at S1 GB
        rw [hgg]
        clear hgg
        have v1 : IntKind.i64.wrap (-gg) = -gg := IntWalk.i64_in _ (by omega)
        have l0 : (0 : Int) ≤ (l : Int) := by omega
        have l2 : (l : Int) < (c : Int) := by omega
        by_cases hneg : x < 0
        · rw [if_pos hneg] at S1
          have n2 : decide (x < 0) = true := decide_eq_true hneg
          go_wp2_with fail
          go_ret
          exact ⟨by rw [S1.out]; rfl, n, rfl⟩
        · rw [if_neg hneg] at S1
          have n2 : decide (x < 0) = false := decide_eq_false hneg
          go_wp2_with fail
          go_ret
          exact ⟨by rw [S1.out]; rfl, n, rfl⟩
end Go.Proofs.Ytpknondccajinaa
