/-
  Chapter 7, in the model: IsEchelon of what is no matrix, and of all.
-/
import Derived.Test.YtpknondccajinaaEchI
namespace Go.Proofs.Ytpknondccajinaa
set_option maxRecDepth 100000
open Go.RowKit

theorem sIsEch_f (r c : Int) (a : Option Addr) (m : Nat) (xs : List Int) (w : World) (h : Rd w a xs) (hn : xs.length ≤ 16777216) (hm : isMat r c xs = false) :
    Calls Try.prog 18 #[.agg #[.int .i64 r, .int .i64 c, .slice a xs.length m]] w (Gives (.bool false) w) := by
  have IM : Hid (∀ w', Rd w' a xs → Calls Try.prog 44 #[.agg #[.int .i64 r, .int .i64 c, .slice a xs.length m]] w' (Gives (.bool false) w')) := fun w' h' => by
    have := sIsMat r c a m xs w' h' hn
    rw [hm] at this
    exact this
  clear hm hn
  generalize xs.length = L at IM ⊢
  have K : Hid (Blk3 (w.alloc (.cells #[.int .i64 r, .int .i64 c, .slice a L m] 26)) w.heap.size 26 (.int .i64 r) (.int .i64 c) (.slice a L m)) := Blk3.at_ _ _ _ _ rfl
  have RX := Lib.hid (h.below ((Below.refl _ _).alloc (Nat.le_refl _) (.cells #[.int .i64 r, .int .i64 c, .slice a L m] 26)))
  have BX : Hid (Below w.heap.size w (w.alloc (.cells #[.int .i64 r, .int .i64 c, .slice a L m] 26))) := (Below.refl _ _).alloc (Nat.le_refl _) _
  clear h
  go_enter Try.func18, Try.ntmps18
  go_wp2_with fail
  generalize w.alloc (.cells #[.int .i64 r, .int .i64 c, .slice a L m] 26) = W at K RX BX ⊢
  go_loopw [2, 3, 4, 5, 6, 7, 8] (fun _ _ v4 _ _ _ _ wr => v4 = .int .i64 0 ∧ Blk3 wr w.heap.size 26 (.int .i64 r) (.int .i64 c) (.slice a L m) ∧ Rd wr a xs ∧ Below w.heap.size w wr) (fun _ _ _ _ _ _ _ _ => 0)
  case atStart => exact ⟨rfl, K.out, RX.out, BX.out⟩
  case round =>
    clear K RX BX
    obtain ⟨rfl, hk, hr, hb⟩ := hrel
    have K := Lib.hid hk
    have RX := Lib.hid hr
    have BX := Lib.hid hb
    clear hk hr hb
    obtain ⟨p0, p1, p2, -, -, -⟩ := K.out.all
    by_cases h0 : 0 < r
    · go_wp2_with fail
      refine (IM.out _ RX.out).mono ?_
      rintro e w0 ⟨rfl, hb⟩
      have K := Lib.hid (K.out.step hb)
      have RX := Lib.hid (RX.out.below hb)
      have BX := Lib.hid (BX.out.trans (hb.mono BX.out.size))
      clear hb p0 p1 p2
      obtain ⟨p0, p1, p2, -, -, -⟩ := K.out.all
      go_wp2_with fail
      refine (IM.out _ RX.out).mono ?_
      rintro e w1 ⟨rfl, hb⟩
      have B2 := Lib.hid (BX.out.trans (hb.mono BX.out.size))
      clear hb p0 p1 p2
      go_wp2_with fail
      exact bodyPost_ret (v := .bool false) (by simp [results, Try.results18, go_sem]) rfl ⟨rfl, B2.out⟩
    · go_wp2_with fail
      refine (IM.out _ RX.out).mono ?_
      rintro e w1 ⟨rfl, hb⟩
      have B2 := Lib.hid (BX.out.trans (hb.mono BX.out.size))
      clear hb p0 p1 p2
      go_wp2_with fail
      exact bodyPost_ret (v := .bool false) (by simp [results, Try.results18, go_sem]) rfl ⟨rfl, B2.out⟩
/-- IsEchelon: whether the elimination ends where it began. -/
theorem sIsEchelon (r c : Int) (a : Option Addr) (m : Nat) (xs : List Int) (w : World) (h : Rd w a xs) (hn : xs.length ≤ 16777216) :
    Calls Try.prog 18 #[.agg #[.int .i64 r, .int .i64 c, .slice a xs.length m]] w (Gives (.bool (echIs r c xs)) w) := by
  rcases Bool.eq_false_or_eq_true (isMat r c xs) with hm | hm
  · obtain ⟨⟨r0, r1⟩, ⟨c0, c1⟩, hl, nx⟩ := isMat_says hm
    obtain ⟨R, rfl⟩ := Int.eq_ofNat_of_zero_le r0
    obtain ⟨C, rfl⟩ := Int.eq_ofNat_of_zero_le c0
    have hx : xs.length = R * C := by rw [← Int.natCast_mul] at hl; omega
    refine sIsEch_t R C xs.length a m xs w h rfl hx (by omega) (by omega) nx hm _ ?_
    rw [EchB_iff hx nx]
    unfold echIs
    rw [hm, Bool.true_and]
    show _ ↔ (match echM R C xs with | some (ys, _) => decide (ys = xs) | none => false) = true
    cases he : echM R C xs with
    | none => exact ⟨fun ⟨pv, h⟩ => (by cases h), fun h => (by cases h)⟩
    | some o =>
      obtain ⟨ys, pv⟩ := o
      show _ ↔ decide (ys = xs) = true
      rw [decide_eq_true_eq]
      exact ⟨fun ⟨qv, h⟩ => (by injection h with h; injection h), fun h => ⟨pv, by rw [h]⟩⟩
  · have e : echIs r c xs = false := by unfold echIs; rw [hm]; rfl
    rw [e]
    exact sIsEch_f r c a m xs w h hn hm
end Go.Proofs.Ytpknondccajinaa
