/-
  Chapter 3, in the program: a fold whose closure writes into its value (MultiplyMatrices).
-/
import Derived.Test.YtbdofgkcedpamaaCopyI
import Derived.Test.YtbdofgkcedpamaaDoneI
import Derived.StillTailTactics
import Derived.IntWalk
namespace Go.Proofs.Ytbdofgkcedpamaa
set_option maxRecDepth 100000
open Go.RowKit

theorem sevenG {W w' : World} {b g : Nat} {t : TypeId} {p q r : Value} (h0 : Blk3 W b t p q r) (hg : W.grownBy w' (some g)) (hb : b ≠ g) :
    w'.cell? ⟨b, 0, none⟩ = some p ∧ w'.cell? ⟨b, 1, none⟩ = some q ∧ w'.cell? ⟨b, 2, none⟩ = some r :=
  ⟨(h0.keepOne hg hb).cell0, (h0.keepOne hg hb).cell1, (h0.keepOne hg hb).cell2⟩
theorem far_of {w : World} {a : Option Addr} {zs : List Int} {n : Nat} (h : Rd w a zs) (hn : zs.length = n) : ∀ b o : Nat, a = some ⟨b, o, none⟩ → 0 < n → b ≠ w.heap.size := by
  intro b o e hz
  obtain ⟨b', o', e', hc⟩ := h 0 (by omega)
  rw [e] at e'
  injection e' with e'
  injection e' with e1 e2
  have := World.block_lt_of_cell? w _ hc
  simp at this
  omega
set_option maxRecDepth 100000 in
set_option maxHeartbeats 1000000 in
theorem iFoldM (pb R C n : Nat) (a : Option Addr) (cap : Nat) (zs : List Int) (g m mc : Nat) (L : Nat → List Int) (w : World) (hx : zs.length = n) (h : Rd w a zs) (hn : n = R * C) (hR : R ≤ 24) (hC : C ≤ 24) (hg : Ints w g (L 0)) (hz : ∀ b o : Nat, a = some ⟨b, o, none⟩ → 0 < n → b ≠ g)
    (step : ∀ (k : Nat) (w1 : World), k < n → w.grownBy w1 (some g) → Ints w1 g (L k) → Calls Try.prog 64 #[.slice (some ⟨g, 0, none⟩) m mc, .int .i64 ((k : Int) / (C : Int)), .int .i64 ((k : Int) % (C : Int)), .int .i64 (zs.getD k 0), .pointer (some ⟨pb, 0, none⟩)] w1
      (fun e w2 => e = .returned (.slice (some ⟨g, 0, none⟩) m mc) ∧ Ints w2 g (L (k + 1)) ∧ w1.grownBy w2 (some g))) :
    Calls Try.prog 63 #[.agg #[.int .i64 R, .int .i64 C, .slice a n cap], .slice (some ⟨g, 0, none⟩) m mc, .func (.func 64) #[] #[.pointer (some ⟨pb, 0, none⟩)]] w
      (fun e w' => e = .returned (.slice (some ⟨g, 0, none⟩) m mc) ∧ Ints w' g (L n) ∧ w.grownBy w' (some g)) := by
  have H := Lib.hid h
  have ST := Lib.hid step
  have HZ := Lib.hid hz
  have hle : R * C ≤ 24 * 24 := Nat.mul_le_mul hR hC
  have HN := Lib.hid hx
  rw [← hn] at hle
  have HM := Lib.hid hn
  have gw : w.grownBy (w.alloc (.cells #[.int .i64 R, .int .i64 C, .slice a n cap] 26)) (some g) := World.grownBy_alloc w _ _
  have G0 := Lib.hid gw
  have I0 := Lib.hid (hg.old (.cells #[.int .i64 R, .int .i64 C, .slice a n cap] 26))
  have K0 : Hid (Blk3 (w.alloc (.cells #[.int .i64 R, .int .i64 C, .slice a n cap] 26)) w.heap.size 26 (.int .i64 R) (.int .i64 C) (.slice a n cap)) := Blk3.at_ _ _ _ _ rfl
  have lg := hg.lt
  clear h step hz hx hn gw hg
  go_enter Try.func63, Try.ntmps63
  go_wp2_with fail
  go_loopw [7, 8, 9, 14] (fun v _ _ i wr => ∃ k : Nat, i = .int .i64 k ∧ k ≤ n ∧ v = .slice (some ⟨g, 0, none⟩) m mc ∧ Ints wr g (L k) ∧ (w.alloc (.cells #[.int .i64 R, .int .i64 C, .slice a n cap] 26)).grownBy wr (some g)) (fun _ _ _ i _ => n - (intOf i).toNat)
  case atStart => exact ⟨0, rfl, by omega, rfl, I0.out, World.grownBy.refl _ _⟩
  case round =>
    obtain ⟨k, rfl, hk, rfl, hi, hgr⟩ := hrel
    have I := Lib.hid hi
    have G := Lib.hid hgr
    have GW := Lib.hid (G0.out.trans hgr)
    clear hi hgr
    have R0 := Lib.hid (K0.out.keepOne G.out (by omega))
    by_cases hlt : k < n
    · have hC0 : 0 < C := by
        rcases Nat.eq_zero_or_pos C with e | e
        · have := HM.out; rw [e, Nat.mul_zero] at this; omega
        · exact e
      have c0 : ((C : Int) == 0) = false := by simp; omega
      obtain ⟨b, o, rfl, hcell⟩ := H.out k (by rw [HN.out]; exact hlt)
      have u1 := World.block_lt_of_cell? w _ hcell
      have hb : b ≠ g := HZ.out b o rfl (by omega)
      have hcell := GW.out.cell hcell (by simpa using hb)
      have d1 : (k : Int) / (C : Int) = ((k / C : Nat) : Int) := (Int.natCast_ediv k C).symm
      have d2 : (k : Int) % (C : Int) = ((k % C : Nat) : Int) := (Int.natCast_emod k C).symm
      have d3 : k / C ≤ k := Nat.div_le_self k C
      have d4 : k % C ≤ k := Nat.mod_le k C
      have d5 : 0 ≤ (k : Int) / (C : Int) := by rw [d1]; exact Int.natCast_nonneg _
      have d6 : (k : Int) / (C : Int) ≤ 600 := by rw [d1]; exact Int.ofNat_le.mpr (show k / C ≤ 600 by omega)
      have c1 : ¬ C = 0 := by omega
      have w1 : IntKind.i64.wrap ((k : Int) / (C : Int)) = (k : Int) / (C : Int) := IntWalk.i64_in _ (by omega)
      have e2 : Int.tmod (k : Int) (C : Int) = (k : Int) % (C : Int) := Int.tmod_eq_emod_of_nonneg (by omega)
      have e3 : Int.tdiv (k : Int) (C : Int) = (k : Int) / (C : Int) := Int.tdiv_eq_ediv_of_nonneg (by omega)
      clear d1 d2
      obtain ⟨z, hz⟩ : ∃ z, zs.getD k 0 = z := ⟨_, rfl⟩
      rw [hz] at hcell
      have Z := Lib.hid hz
      clear hz u1
      obtain ⟨r0, r1, r2, -, -, -⟩ := R0.out.all
      go_wp2_with fail
      go_still_tail 11, (by kernel_rfl)
      go_wp2_with fail
      rw [← Z.out]
      refine (ST.out k _ hlt (grown_drew_one GW.out) I.out.drew).mono ?_
      rintro e w2 ⟨rfl, hi2, hg2⟩
      have I2 := Lib.hid hi2
      have G2 := Lib.hid ((grown_drew_one G.out).trans hg2)
      clear hi2 hg2
      go_wp2_with fail
      go_roundw
      case rel => exact ⟨k + 1, by go_num, by omega, rfl, I2.out, G2.out⟩
      case measure => simp [intOf]; omega
    · obtain rfl : n = k := by omega
      go_wp2_with fail
      go_ret
      exact ⟨rfl, I.out, GW.out⟩
end Go.Proofs.Ytbdofgkcedpamaa
