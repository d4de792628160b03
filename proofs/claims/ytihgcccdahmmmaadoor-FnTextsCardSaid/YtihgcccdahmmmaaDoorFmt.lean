/-
  Chapter 1: FormatInt, in the model and in the program: both write the decimal numeral.
-/
import Derived.Test.YtihgcccdahmmmaaDoorRows
import Derived.Test.YtihgcccdahmmmaaDoorBlk
import Derived.Test.YtihgcccdahmmmaaDoorItoa
import Derived.Test.YtihgcccdahmmmaaDoorShelf
import Derived.WalkKit
namespace Go.Proofs.YtihgcccdahmmmaaDoor
open Go.RowKit
open Go.Lib (decDigits itoa nDigits)

theorem piece_fin : ∀ i : Fin 10, ((⟨#[48, 49, 50, 51, 52, 53, 54, 55, 56, 57]⟩ : ByteArray).extract i.val (i.val + 1)) = ⟨#[UInt8.ofNat (48 + i.val)]⟩ := by decide +kernel
/-- One digit, cut out of the text of all ten. -/
theorem run_piece (d : Nat) (h : d < 10) (x : Int) (hx : x = d) (w : World) :
    (Instr.slice 9 (.string ⟨#[48, 49, 50, 51, 52, 53, 54, 55, 56, 57]⟩) (some (.int .i64 x)) (some (.int .i64 (x + 1))) none).run Tryd.prog w = .ok (.string ⟨#[UInt8.ofNat (48 + d)]⟩) w := by
  subst hx
  have e := run_slice_string (P := Tryd.prog) w 9 ⟨#[48, 49, 50, 51, 52, 53, 54, 55, 56, 57]⟩ .i64 .i64 (d : Int) ((d : Int) + 1) Tryd.underlying9 (by omega) (by omega) (by show (d : Int) + 1 ≤ 10; omega)
  rw [e]
  have p := piece_fin ⟨d, h⟩
  simp only at p
  rw [show ((d : Int)).toNat = d from by omega, show ((d : Int) + 1).toNat = d + 1 from by omega, p]

theorem run_cat (c : UInt8) (l : List UInt8) (h : l.length ≤ 1000) (w : World) : (Op.stringOp .add ⟨#[c]⟩ ⟨l.toArray⟩).run Tryd.prog w = .ok (.string ⟨(c :: l).toArray⟩) w :=
  run_string_add_lists (P := Tryd.prog) w [c] l (by simp) (by omega)
theorem dd_len (k m : Nat) (l : List UInt8) (h : dd k ++ l = dd m) (hm : m ≤ 9223372036854775808) : l.length ≤ 1000 := by
  have h1 : (dd m).length ≤ 20 := by
    by_cases h0 : m = 0
    · subst h0; exact Nat.zero_le _
    · rw [dd_pos h0, dec_len]; exact nDigits_le 19 m (by omega)
  rw [← h, List.length_append] at h1
  omega

set_option maxHeartbeats 400000 in
theorem sFmt_pos (m : Nat) (w : World) (h0 : m ≠ 0) (h1 : m ≤ 9223372036854775807) :
    Calls Tryd.prog 56 #[.int .i64 m] w fun e w' => e = .returned (.string ⟨(decDigits m).toArray⟩) ∧ w = w' := by
  go_enter Tryd.func56, Tryd.ntmps56
  go_wp2
  go_loop [3, 4] (fun s x => ∃ (k : Nat) (l : List UInt8), s = .string ⟨l.toArray⟩ ∧ x = .int .i64 k ∧ k ≤ m ∧ dd k ++ l = dd m) (fun _ x => (intOf x).toNat)
  case atStart => exact ⟨m, [], rfl, rfl, by omega, by simp⟩
  case round =>
    obtain ⟨k, l, rfl, rfl, hk, hd⟩ := hrel
    have HD := Lib.hid hd
    clear hd
    by_cases hz : k = 0
    · subst hz
      have hm : ((m : Int) == 0) = false := by simp; omega
      have hm2 : decide ((m : Int) < 0) = false := by simp
      go_wp2
      go_ret
      have e := HD.out
      rw [dd_zero, dd_pos h0, List.nil_append] at e
      rw [← e]
      exact ⟨rfl, rfl⟩
    · have hz' : ((k : Int) == 0) = false := by simp; omega
      have H0 := Lib.hid hz
      clear hz
      have d0 : 0 ≤ (k : Int) % 10 := by omega
      have d1 : (k : Int) % 10 < 10 := by omega
      have d2 : (k : Int) % 10 + 1 ≤ 10 := by omega
      obtain ⟨c, hc, hsl⟩ : ∃ c : UInt8, c = UInt8.ofNat (48 + k % 10) ∧ ∀ w : World, (Instr.slice 9 (.string ⟨#[48, 49, 50, 51, 52, 53, 54, 55, 56, 57]⟩) (some (.int .i64 ((k : Int) % 10))) (some (.int .i64 ((k : Int) % 10 + 1))) none).run Tryd.prog w = .ok (.string ⟨#[c]⟩) w :=
        ⟨_, rfl, fun w => run_piece (k % 10) (by omega) ((k : Int) % 10) (by omega) w⟩
      have HC := Lib.hid hc
      clear hc
      have hcat := run_cat c l (dd_len k m l HD.out (by omega))
      go_wp2_with (fail)
      go_round
      case rel => exact ⟨k / 10, c :: l, rfl, by go_num, by omega, by rw [← HD.out, dd_step k H0.out, HC.out]; simp⟩
      case measure => have := H0.out; simp [intOf]; omega

theorem neg_tmod (k : Nat) : (-(k : Int)).tmod 10 = -((k % 10 : Nat) : Int) := by rw [Int.neg_tmod]; rfl
theorem neg_tdiv (k : Nat) : (-(k : Int)).tdiv 10 = -((k / 10 : Nat) : Int) := by rw [Int.neg_tdiv]; rfl

set_option maxHeartbeats 400000 in
theorem sFmt_neg (m : Nat) (w : World) (h0 : m ≠ 0) (h1 : m ≤ 9223372036854775808) :
    Calls Tryd.prog 56 #[.int .i64 (-(m : Int))] w fun e w' => e = .returned (.string ⟨(45 :: decDigits m).toArray⟩) ∧ w = w' := by
  have hm0 : 0 < (m : Int) := by omega
  have H0 := Lib.hid h0
  clear h0
  go_enter Tryd.func56, Tryd.ntmps56
  go_wp2
  go_loop [3, 4] (fun s x => ∃ (k : Nat) (l : List UInt8), s = .string ⟨l.toArray⟩ ∧ x = .int .i64 (-(k : Int)) ∧ k ≤ m ∧ dd k ++ l = dd m) (fun _ x => (-(intOf x)).toNat)
  case atStart => exact ⟨m, [], rfl, rfl, by omega, by simp⟩
  case round =>
    obtain ⟨k, l, rfl, rfl, hk, hd⟩ := hrel
    have HD := Lib.hid hd
    clear hd
    by_cases hz : k = 0
    · subst hz
      have hcat := run_cat 45 l (dd_len 0 m l HD.out h1)
      have hm : (-(m : Int) == 0) = false := by simp; omega
      go_wp2
      go_ret
      have e := HD.out
      rw [dd_zero, dd_pos H0.out, List.nil_append] at e
      rw [← e]
      exact ⟨rfl, rfl⟩
    · have hz' : (-(k : Int) == 0) = false := by simp; omega
      have hk0 : 0 < (k : Int) := by omega
      have K0 := Lib.hid hz
      have HK := Lib.hid hk
      have e1 := neg_tmod k
      have e2 := neg_tdiv k
      clear hz hk
      have b1 : (k : Int) / 10 ≤ 1000000000000000000 := by have := HK.out; omega
      have b2 : 0 ≤ (k : Int) / 10 := by omega
      by_cases hm10 : k % 10 = 0
      · have z1 : (k : Int) % 10 = 0 := by omega
        obtain ⟨c, hc, hsl⟩ : ∃ c : UInt8, c = UInt8.ofNat (48 + k % 10) ∧ ∀ w : World, (Instr.slice 9 (.string ⟨#[48, 49, 50, 51, 52, 53, 54, 55, 56, 57]⟩) (some (.int .i64 0)) (some (.int .i64 1)) none).run Tryd.prog w = .ok (.string ⟨#[c]⟩) w :=
          ⟨_, rfl, fun w => by rw [hm10]; exact run_piece 0 (by omega) 0 rfl w⟩
        have HC := Lib.hid hc
        clear hc hm10
        have hcat := run_cat c l (dd_len k m l HD.out h1)
        go_wp2_with (fail)
        go_round
        case rel => exact ⟨k / 10, c :: l, rfl, by go_num, by have := HK.out; omega, by rw [← HD.out, dd_step k K0.out, HC.out]; simp⟩
        case measure => have := K0.out; simp [intOf]; omega
      · have d0 : 0 < (k : Int) % 10 := by omega
        have d1 : (k : Int) % 10 < 10 := by omega
        obtain ⟨c, hc, hsl⟩ : ∃ c : UInt8, c = UInt8.ofNat (48 + k % 10) ∧ ∀ w : World, (Instr.slice 9 (.string ⟨#[48, 49, 50, 51, 52, 53, 54, 55, 56, 57]⟩) (some (.int .i64 ((k : Int) % 10))) (some (.int .i64 ((k : Int) % 10 + 1))) none).run Tryd.prog w = .ok (.string ⟨#[c]⟩) w :=
          ⟨_, rfl, fun w => run_piece (k % 10) (by omega) ((k : Int) % 10) (by omega) w⟩
        have HC := Lib.hid hc
        clear hc hm10
        have hcat := run_cat c l (dd_len k m l HD.out h1)
        go_wp2_with (fail)
        go_round
        case rel => exact ⟨k / 10, c :: l, rfl, by go_num, by have := HK.out; omega, by rw [← HD.out, dd_step k K0.out, HC.out]; simp⟩
        case measure => have := K0.out; simp [intOf]; omega

theorem sFmt_zero (w : World) : Calls Tryd.prog 56 #[.int .i64 0] w fun e w' => e = .returned (.string ⟨#[48]⟩) ∧ w = w' := by
  go_enter Tryd.func56, Tryd.ntmps56
  go_wp2
  go_loop [3, 4] (fun s x => s = .string ⟨#[]⟩ ∧ x = .int .i64 0) (fun _ x => (intOf x).toNat)
  case atStart => exact ⟨rfl, rfl⟩
  case round =>
    obtain ⟨rfl, rfl⟩ := hrel
    go_wp2
    go_ret
    exact ⟨rfl, rfl⟩

/-- The model's numeral. -/
theorem sFmt (n : Int) (w : World) (h0 : -9223372036854775808 ≤ n) (h1 : n ≤ 9223372036854775807) :
    Calls Tryd.prog 56 #[.int .i64 n] w fun e w' => e = .returned (.string ⟨(itoa n).toArray⟩) ∧ w = w' := by
  rcases Int.lt_trichotomy n 0 with h | h | h
  · obtain ⟨m, rfl⟩ : ∃ m : Nat, n = -(m : Int) := ⟨n.natAbs, by omega⟩
    rw [Lib.itoa_neg m (by omega)]
    exact sFmt_neg m w (by omega) (by omega)
  · subst h
    have e : itoa 0 = [48] := by rw [show (0 : Int) = ((0 : Nat) : Int) from rfl, Lib.itoa_nonneg, decDigits_zero]
    rw [e]
    exact sFmt_zero w
  · obtain ⟨m, rfl⟩ := Int.eq_ofNat_of_zero_le (Int.le_of_lt h)
    rw [Lib.itoa_nonneg]
    exact sFmt_pos m w (by omega) (by omega)

theorem below_grow {B : Nat} (w : World) (os : Array Obj) (h : B ≤ w.heap.size) : Below B w (Sort.grow w os) :=
  ⟨rfl, rfl, rfl, by simp [Sort.grow], fun k hk => Sort.heap_grow_old w os (by omega)⟩
/-- The table that the library's FormatInt reads lies in this world. -/
def Tab (w : World) : Prop := Lib.TabIs Tryd.prog w "internal/strconv.uint64pow10" .u64 Lib.pow10Tab
theorem gTab : Tryd.prog.globalNamed "internal/strconv.uint64pow10" = some 1 := by kernel_rfl
theorem Tab.lt {w : World} (h : Tab w) : 1 < w.heap.size := by
  have := World.block_lt_of_cell? w _ (Lib.TabIs.cell h gTab 0 (by decide))
  exact this
theorem Tab.below {w w' : World} (h : Tab w) (hb : Below w.heap.size w w') : Tab w' := var?_below hb gTab h.lt h

/-- The program's numeral. -/
theorem iFmt (n : Int) (w : World) (h0 : -9223372036854775808 ≤ n) (h1 : n ≤ 9223372036854775807) (ht : Tab w) :
    Calls Tryd.prog 41 #[.int .i64 n] w fun e w' => e = .returned (.string ⟨(itoa n).toArray⟩) ∧ Below w.heap.size w w' := by
  have HT := Lib.hid ht
  clear ht
  go_enter Tryd.func41, Tryd.ntmps41
  go_wp2_with (fail)
  refine (Tryd.strconv_Itoa n h0 h1 w HT.out).mono ?_
  rintro e w1 ⟨rfl, k, os, rfl⟩
  go_wp2_with (fail)
  go_ret
  exact ⟨rfl, (below_drewN (Below.refl _ _) k).trans (below_grow _ _ (Nat.le_refl _))⟩

end Go.Proofs.YtihgcccdahmmmaaDoor
