/-
  The laws' own helpers on slices of ints: sizes, copies, comparisons, marks.
-/
import Derived.Test.YtpelnfenfeoeeaaInts
import Derived.Test.YtpelnfenfeoeeaaNumIs
import Derived.BigQuiet
import Derived.Deep.QuietTactic
import Derived.Deep.LoopGhost
namespace Go.Proofs.Ytpelnfenfeoeeaa
open Go.RowKit

theorem szI (a : Option Addr) (n cap : Nat) (l : Int) (w : World) (hn : (n : Int) ≤ l) (hl : l ≤ 1048576) :
    Calls Try.prog 52 #[.slice a n cap, .int .i64 l] w fun e w' => e = .returned (.int .i64 (l - n)) ∧ w = w' := by
  go_enter Try.func52, Try.ntmps52
  go_wp2
  go_ret
  exact ⟨rfl, rfl⟩
theorem szI_f (a : Option Addr) (n cap : Nat) (l : Int) (w : World) (hn : l < (n : Int)) (h0 : 0 ≤ l) (hm : n ≤ 9223372036854775807) :
    Calls Try.prog 52 #[.slice a n cap, .int .i64 l] w fun e w' => e = .returned (.int .i64 (-1)) ∧ w = w' := by
  go_enter Try.func52, Try.ntmps52
  go_wp2
  go_ret
  exact ⟨rfl, rfl⟩

set_option maxHeartbeats 400000 in
theorem toI (a : Option Addr) (cap : Nat) (zs : List Int) (w : World) (h : Rd w a zs) (hn : zs.length ≤ 1048576) :
    Calls Try.prog 57 #[.slice a zs.length cap] w fun e w' => e = .returned (.slice (some ⟨w.heap.size, 0, none⟩) zs.length zs.length) ∧ Ints w' w.heap.size zs ∧ Below w.heap.size w w' := by
  have hmk := makeInts zs.length (by omega)
  have H := Lib.hid h
  clear h
  obtain ⟨n, hnn⟩ : ∃ n, zs.length = n := ⟨_, rfl⟩
  rw [hnn] at hn hmk ⊢
  have HN := Lib.hid hnn
  clear hnn
  go_enter Try.func57, Try.ntmps57
  go_wp2_with fail
  go_loopw [4] (fun i wr => ∃ k : Nat, i = .int .i64 k ∧ k ≤ n ∧ Ints wr w.heap.size (zs.take k ++ List.replicate (n - k) 0) ∧ Below w.heap.size w wr) (fun i _ => n - (intOf i).toNat)
  case atStart => exact ⟨0, rfl, by omega, by simpa using Ints.made n rfl, (Below.refl _ _).alloc (Nat.le_refl _) _⟩
  case round =>
    obtain ⟨k, rfl, hk, hi, hb⟩ := hrel
    have I := Lib.hid hi
    have B := Lib.hid hb
    clear hi hb
    by_cases hlt : k < n
    · obtain ⟨b, o, rfl, hc⟩ := (H.out.below B.out) k (by rw [HN.out]; exact hlt)
      have hold := I.out.cell (i := k) (by simp [HN.out]; omega)
      have hfr := I.out.free k
      rw [mid_zero zs (n - k) k (by rw [HN.out]; exact hk)] at hold
      obtain ⟨z, hz⟩ : ∃ z, zs.getD k 0 = z := ⟨_, rfl⟩
      rw [hz] at hc
      have Z := Lib.hid hz
      clear hz
      go_wp2_with fail
      go_roundw
      case rel =>
        refine ⟨k + 1, by go_num, by omega, ?_, B.out.setCell (Nat.le_refl _) _⟩
        have S := set_step zs k (by rw [HN.out]; exact hlt)
        rw [HN.out, Z.out] at S
        rw [← S]
        exact I.out.set k z
      case measure => simp [intOf]; omega
    · have hkn : k = n := by omega
      subst hkn
      go_wp2_with fail
      go_ret
      refine ⟨rfl, ?_, B.out⟩
      have e : zs.take k ++ List.replicate (k - k) 0 = zs := by rw [← HN.out]; simp
      rw [← e]; exact I.out

set_option maxHeartbeats 400000 in
theorem eqI_t (a b : Option Addr) (c d : Nat) (zs : List Int) (w : World) (h : Rd w a zs) (h' : Rd w b zs) (hn : zs.length ≤ 16777216) :
    Calls Try.prog 25 #[.slice a zs.length c, .slice b zs.length d] w fun e w' => e = .returned (.bool true) ∧ ∃ n, w' = w.drewN n := by
  have H := Lib.hid h
  have H' := Lib.hid h'
  clear h h'
  obtain ⟨n, hnn⟩ : ∃ n, zs.length = n := ⟨_, rfl⟩
  rw [hnn] at hn ⊢
  have HN := Lib.hid hnn
  clear hnn
  go_enter Try.func25, Try.ntmps25
  go_wp2_with fail
  go_loopw [5] (fun i wr => ∃ k : Nat, i = .int .i64 k ∧ k ≤ n ∧ ∃ m, wr = w.drewN m) (fun i _ => n - (intOf i).toNat)
  case atStart => exact ⟨0, rfl, by omega, 0, rfl⟩
  case round =>
    obtain ⟨k, rfl, hk, m, rfl⟩ := hrel
    by_cases hlt : k < n
    · obtain ⟨b, o, rfl, hc⟩ := H.out k (by rw [HN.out]; exact hlt)
      obtain ⟨b', o', rfl, hc'⟩ := H'.out k (by rw [HN.out]; exact hlt)
      obtain ⟨z, hz⟩ : ∃ z, zs.getD k 0 = z := ⟨_, rfl⟩
      rw [hz] at hc hc'
      have Z := Lib.hid hz
      clear hz
      go_wp2_with fail
      go_quiet (fail)
      go_wp2_with fail
      go_roundw
      case rel => exact ⟨k + 1, by go_num, by omega, _, rfl⟩
      case measure => simp [intOf]; omega
    · have hkn : k = n := by omega
      subst hkn
      go_wp2_with fail
      go_ret
      exact ⟨rfl, m, rfl⟩

/-- Marks are written into a block of the call's own. -/
theorem markI (g cap n : Nat) (zs : List Int) (c : Int) (w : World) (h : Ints w g zs) (hn : n ≤ zs.length) (hm : zs.length ≤ 16777216) (hc0 : 0 ≤ c) (hc : c ≤ 16777216) :
    Calls Try.prog 26 #[.slice (some ⟨g, 0, none⟩) n cap, .int .i64 c] w fun e w' => e = .returned (.int .i64 (c + n)) ∧ Ints w' g (marks c n ++ zs.drop n) ∧ w.grownBy w' (some g) := by
  have H := Lib.hid h
  clear h
  go_enter Try.func26, Try.ntmps26
  go_wp2_with fail
  go_loopw [1, 5] (fun j i wr => ∃ k : Nat, i = .int .i64 k ∧ j = .int .i64 (c + k) ∧ k ≤ n ∧ Ints wr g (marks c k ++ zs.drop k) ∧ w.grownBy wr (some g)) (fun _ i _ => n - (intOf i).toNat)
  case atStart => exact ⟨0, rfl, by simp, by omega, by simpa [marks] using H.out, World.grownBy.refl _ _⟩
  case round =>
    obtain ⟨k, rfl, rfl, hk, hi, hg⟩ := hrel
    have I := Lib.hid hi
    have G := Lib.hid hg
    clear hi hg
    by_cases hlt : k < n
    · have hold := I.out.cell (i := k) (by simp [marks_length]; omega)
      have hfr := I.out.free k
      go_wp2_with fail
      go_roundw
      case rel =>
        refine ⟨k + 1, by go_num, by go_num, by omega, ?_, grown_set_one G.out rfl _⟩
        rw [← mark_step zs c k (by omega)]
        exact I.out.set k _
      case measure => simp [intOf]; omega
    · have hkn : k = n := by omega
      subst hkn
      go_wp2_with fail
      go_ret
      exact ⟨rfl, I.out, G.out⟩
theorem markI_nil (cap : Nat) (c : Int) (w : World) :
    Calls Try.prog 26 #[.slice none 0 cap, .int .i64 c] w fun e w' => e = .returned (.int .i64 c) ∧ w = w' := by
  go_enter Try.func26, Try.ntmps26
  go_wp2_with fail
  go_loopw [1, 5] (fun j i wr => j = .int .i64 c ∧ i = .int .i64 0 ∧ wr = w) (fun _ _ _ => 0)
  case atStart => exact ⟨rfl, rfl, rfl⟩
  case round =>
    obtain ⟨rfl, rfl, rfl⟩ := hrel
    go_wp2_with fail
    go_ret
    exact ⟨rfl, rfl⟩

/-- The marks are there. -/
theorem heldI (a : Option Addr) (cap n : Nat) (c : Int) (w : World) (h : Rd w a (marks c n)) (hm : n ≤ 16777216) (hc0 : 0 ≤ c) (hc : c ≤ 16777216) :
    Calls Try.prog 27 #[.slice a n cap, .int .i64 c] w fun e w' => e = .returned (.int .i64 (c + n)) ∧ w = w' := by
  have H := Lib.hid h
  clear h
  go_enter Try.func27, Try.ntmps27
  go_wp2_with fail
  go_loop [1, 5] (fun j i => ∃ k : Nat, i = .int .i64 k ∧ j = .int .i64 (c + k) ∧ k ≤ n) (fun _ i => n - (intOf i).toNat)
  case atStart => exact ⟨0, rfl, by simp, by omega⟩
  case round =>
    obtain ⟨k, rfl, rfl, hk⟩ := hrel
    by_cases hlt : k < n
    · obtain ⟨b, o, rfl, hcell⟩ := H.out k (by rw [marks_length]; exact hlt)
      rw [marks_getD c n k hlt] at hcell
      go_wp2_with fail
      go_round
      case rel => exact ⟨k + 1, by go_num, by go_num, by omega⟩
      case measure => simp [intOf]; omega
    · have hkn : k = n := by omega
      subst hkn
      go_wp2_with fail
      go_ret
      exact ⟨rfl, rfl⟩
end Go.Proofs.Ytpelnfenfeoeeaa
