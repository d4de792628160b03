/-
  Chapter 1, in the model: ParseInt reads the numerals of numbers, and nothing else.
-/
import Derived.Test.YtihgcccdahmmmaaDoorRows
import Derived.Test.YtihgcccdahmmmaaDoorNumIs
import Derived.Test.YtihgcccdahmmmaaDoorFmt
import Derived.Test.YtihgcccdahmmmaaDoorParseI
import Derived.WalkKit
namespace Go.Proofs.YtihgcccdahmmmaaDoor
open Go.RowKit
open Go.Lib (decDigits itoa nDigits)

set_option maxHeartbeats 1000000 in
theorem sParse_no (s : ByteArray) (h : ∀ v : Int, -400000000 ≤ v → v ≤ 400000000 → s.data.toList ≠ itoa v) (hsz : s.size ≤ 9223372036854775807) (w : World) :
    Calls Tryd.prog 58 #[.string s] w fun e w' => e = .returned (.tuple #[.int .i64 0, .bool false]) ∧ w = w' := by
  have H := Lib.hid h
  clear h
  go_enter Tryd.func58, Tryd.ntmps58
  go_wp2_with fail
  go_loop [4, 5, 6] (fun n d i => ∃ (q : Int) (j k : Nat), n = .int .i64 q ∧ d = .int .i64 j ∧ i = .int .i64 k ∧ j ≤ k ∧ k ≤ s.size ∧ j ≤ 12) (fun _ _ i => (s.size - intOf i).toNat)
  case atStart => exact ⟨0, 0, 0, rfl, rfl, rfl, by omega, by omega, by omega⟩
  case round =>
    obtain ⟨q, j, k, rfl, rfl, rfl, hjk, hk, hj⟩ := hrel
    have hj0 : (j : Int) ≤ 12 := by omega
    by_cases hlt : k < s.size
    · by_cases hj12 : j < 12
      · have hj1 : (j : Int) < 12 := by omega
        have H1 := Lib.hid hj12
        have H2 := Lib.hid hj
        have H3 := Lib.hid hjk
        clear hj12 hj hjk
        by_cases hk0 : k = 0
        · subst hk0
          go_wp2_with fail
          · go_round
            case rel => exact ⟨q, j, 1, rfl, rfl, rfl, by have := H3.out; omega, by omega, H2.out⟩
            case measure => simp [intOf]; omega
          · go_ret2
            exact ⟨rfl, rfl⟩
          · go_round
            case rel => exact ⟨_, j + 1, 1, rfl, by go_num, rfl, by have := H3.out; omega, by omega, H1.out⟩
            case measure => simp [intOf]; omega
          · go_ret2
            exact ⟨rfl, rfl⟩
        · have hk1 : ((k : Int) == 0) = false := by simpa using hk0
          clear hk0
          go_wp2_with fail
          · go_ret2
            exact ⟨rfl, rfl⟩
          · go_round
            case rel => exact ⟨_, j + 1, k + 1, rfl, by go_num, by go_num, by have := H3.out; omega, by omega, H1.out⟩
            case measure => simp [intOf]; omega
          · go_ret2
            exact ⟨rfl, rfl⟩
      · have hjj : decide ((j : Int) < 12) = false := by simp; omega
        have j1 : 0 < (j : Int) := by omega
        have j10 : 10 < (j : Int) := by omega
        have hp : 0 < s.size := by omega
        clear hj12 hj hjk
        go_wp2_with fail
        all_goals
          go_ret2
          exact ⟨rfl, rfl⟩
    · have hl2 : decide (k < s.size) = false := by simpa using hlt
      have hks : k = s.size := by omega
      clear hlt
      by_cases h0 : j = 0
      · subst h0
        go_wp2_with fail
        go_ret2
        exact ⟨rfl, rfl⟩
      · have hp : 0 < s.size := by omega
        have j1 : 0 < (j : Int) := by omega
        clear h0
        by_cases h10 : j ≤ 10
        · have j10 : (j : Int) ≤ 10 := by omega
          clear h10
          by_cases hm : ((s[0]'hp).toNat : Int) = 45
          · have hm' : (((s[0]'hp).toNat : Int) == 45) = true := by simpa using hm
            clear hm
            by_cases hr : -400000000 ≤ wrap64 (-q) ∧ wrap64 (-q) ≤ 400000000
            · obtain ⟨r1, r2⟩ := hr
              have hne := text_ne (H.out _ r1 r2)
              go_wp2_with (first | (go_at_call 45; refine (sIsNum_t _ _ r1 r2).mono ?_; rintro e w' ⟨rfl, rfl⟩) | (go_at_call 56; refine (sFmt _ _ (by omega) (by omega)).mono ?_; rintro e w' ⟨rfl, rfl⟩))
              go_ret2
              exact ⟨rfl, rfl⟩
            · go_wp2_with (go_at_call 45; refine (sIsNum_f _ _ (by omega)).mono ?_; rintro e w' ⟨rfl, rfl⟩)
              go_ret2
              exact ⟨rfl, rfl⟩
          · have hm' : (((s[0]'hp).toNat : Int) == 45) = false := by simpa using hm
            clear hm
            by_cases hr : -400000000 ≤ q ∧ q ≤ 400000000
            · obtain ⟨r1, r2⟩ := hr
              have hne := text_ne (H.out _ r1 r2)
              go_wp2_with (first | (go_at_call 45; refine (sIsNum_t _ _ r1 r2).mono ?_; rintro e w' ⟨rfl, rfl⟩) | (go_at_call 56; refine (sFmt _ _ (by omega) (by omega)).mono ?_; rintro e w' ⟨rfl, rfl⟩))
              go_ret2
              exact ⟨rfl, rfl⟩
            · go_wp2_with (go_at_call 45; refine (sIsNum_f _ _ (by omega)).mono ?_; rintro e w' ⟨rfl, rfl⟩)
              go_ret2
              exact ⟨rfl, rfl⟩
        · have j10 : 10 < (j : Int) := by omega
          clear h10
          go_wp2_with fail
          all_goals
            go_ret2
            exact ⟨rfl, rfl⟩

theorem dec_len_le (m : Nat) (h : m ≤ 400000000) : (decDigits m).length ≤ 9 := by rw [dec_len]; exact nDigits_le 8 m (by omega)
theorem dec_len_pos (m : Nat) : 1 ≤ (decDigits m).length := by rw [dec_len]; exact Lib.nDigits_pos m
theorem byte_at (s : ByteArray) (l : List UInt8) (hs : s.data.toList = l) (k : Nat) (hk : k < s.size) (hl : k < l.length) : (s[k]'hk).toNat = (l[k]'hl).toNat := by
  have : s[k]'hk = s.data.toList[k]'(by rw [Array.length_toList]; exact hk) := rfl
  rw [this]
  congr 1
  simp only [hs]

set_option maxHeartbeats 1000000 in
theorem sParse_pos (s : ByteArray) (m : Nat) (hm : m ≤ 400000000) (hs : s.data.toList = decDigits m) (w : World) :
    Calls Tryd.prog 58 #[.string s] w fun e w' => e = .returned (.tuple #[.int .i64 m, .bool true]) ∧ w = w' := by
  have hsz : s.size = (decDigits m).length := by rw [← hs]; exact Array.length_toList.symm
  have l1 := dec_len_le m hm
  have l2 := dec_len_pos m
  have S := Lib.hid hs
  have Z := Lib.hid hsz
  have z1 : s.size ≤ 9 := by omega
  have z2 : 0 < s.size := by omega
  have b0 := byte_at s _ hs 0 z2 (by omega)
  have d0 := dec_digit m _ (List.getElem_mem (show 0 < (decDigits m).length by omega))
  have x0 : (((s[0]'z2).toNat : Int) == 45) = false := by rw [b0, beq_eq_false_iff_ne]; omega
  have q := text_eq (s := s) (l := itoa (m : Int)) (by rw [hs, Lib.itoa_nonneg])
  have Q := Lib.hid q
  clear hs hsz b0 d0 q l1 l2
  go_enter Tryd.func58, Tryd.ntmps58
  go_wp2_with fail
  go_loop [4, 5, 6] (fun n d i => ∃ k : Nat, n = .int .i64 (valOf ((decDigits m).take k)) ∧ d = .int .i64 k ∧ i = .int .i64 k ∧ k ≤ s.size) (fun _ _ i => (s.size - intOf i).toNat)
  case atStart => exact ⟨0, rfl, rfl, rfl, by omega⟩
  case round =>
    obtain ⟨k, rfl, rfl, rfl, hk⟩ := hrel
    by_cases hlt : k < s.size
    · have hl : k < (decDigits m).length := by rw [← Z.out]; exact hlt
      have hx := dec_digit m _ (List.getElem_mem hl)
      have st := valOf_take (decDigits m) k hl
      have q1 := valOf_take_le (decDigits m) k
      have q2 := valOf_take_le (decDigits m) (k + 1)
      rw [valOf_dec] at q1 q2
      have hb := byte_at s _ S.out k hlt hl
      generalize (decDigits m)[k].toNat = x at *
      generalize valOf ((decDigits m).take k) = q at *
      have x1 : (48 : Int) ≤ x := by omega
      have x2 : (x : Int) ≤ 57 := by omega
      have n0 : (q : Int) ≤ 400000000 := by omega
      have n1 : (q : Int) * 10 + ((x : Int) - 48) ≤ 400000000 := by omega
      have k1 : (k : Int) < 12 := by omega
      have ST := Lib.hid st
      have HX := Lib.hid hx
      clear st hx q1 q2 hl hk
      by_cases hk0 : k = 0
      · subst hk0
        have x45 : ((x : Int) == 45) = false := by rw [beq_eq_false_iff_ne]; omega
        clear x0
        go_wp2_with fail
        go_round
        case rel =>
          have := ST.out
          have := HX.out
          exact ⟨0 + 1, by congr 1; omega, rfl, rfl, by omega⟩
        case measure => simp [intOf]; omega
      · have hk1 : ((k : Int) == 0) = false := by simpa using hk0
        clear hk0
        go_wp2_with fail
        go_round
        case rel =>
          have := ST.out
          have := HX.out
          exact ⟨k + 1, by congr 1; omega, by go_num, by go_num, by omega⟩
        case measure => simp [intOf]; omega
    · have hl2 : decide (k < s.size) = false := by simpa using hlt
      have e1 : (decDigits m).take k = decDigits m := List.take_of_length_le (by rw [← Z.out]; omega)
      rw [e1, valOf_dec]
      have k1 : 0 < (k : Int) := by omega
      have k2 : (k : Int) ≤ 9 := by omega
      have m1 : (m : Int) ≤ 400000000 := by omega
      have hq := Q.out
      clear e1 hlt hk
      go_wp2_with (first | (go_at_call 45; refine (sIsNum_t _ _ (by omega) (by omega)).mono ?_; rintro e w' ⟨rfl, rfl⟩) | (go_at_call 56; refine (sFmt _ _ (by omega) (by omega)).mono ?_; rintro e w' ⟨rfl, rfl⟩))
      go_ret2
      exact ⟨rfl, rfl⟩

set_option maxHeartbeats 1000000 in
theorem sParse_neg (s : ByteArray) (m : Nat) (h0 : 0 < m) (hm : m ≤ 400000000) (hs : s.data.toList = 45 :: decDigits m) (w : World) :
    Calls Tryd.prog 58 #[.string s] w fun e w' => e = .returned (.tuple #[.int .i64 (-(m : Int)), .bool true]) ∧ w = w' := by
  have hsz : s.size = (decDigits m).length + 1 := by
    have : s.size = s.data.toList.length := Array.length_toList.symm
    rw [this, hs]; rfl
  have l1 := dec_len_le m hm
  have l2 := dec_len_pos m
  have S := Lib.hid hs
  have Z := Lib.hid hsz
  have z1 : s.size ≤ 10 := by omega
  have z2 : 0 < s.size := by omega
  have b0 := byte_at s _ hs 0 z2 (by simp)
  have x0 : (((s[0]'z2).toNat : Int) == 45) = true := by rw [b0]; rfl
  have q := text_eq (s := s) (l := itoa (-(m : Int))) (by rw [hs, Lib.itoa_neg m h0])
  have Q := Lib.hid q
  clear hs hsz b0 q
  go_enter Tryd.func58, Tryd.ntmps58
  go_wp2_with fail
  go_loop [4, 5, 6] (fun n d i => ∃ k j : Nat, n = .int .i64 (valOf ((decDigits m).take k)) ∧ d = .int .i64 k ∧ i = .int .i64 j ∧ k + 1 ≤ s.size ∧ (j = 0 ∧ k = 0 ∨ j = k + 1)) (fun _ _ i => (s.size - intOf i).toNat)
  case atStart => exact ⟨0, 0, rfl, rfl, rfl, by omega, .inl ⟨rfl, rfl⟩⟩
  case round =>
    obtain ⟨k, j, rfl, rfl, rfl, hk, hj⟩ := hrel
    rcases hj with ⟨rfl, rfl⟩ | rfl
    · go_wp2_with fail
      go_round
      case rel => exact ⟨0, 1, rfl, rfl, rfl, by omega, .inr rfl⟩
      case measure => simp [intOf]; omega
    · by_cases hlt : k + 1 < s.size
      · have hl : k < (decDigits m).length := by have := Z.out; omega
        have hx := dec_digit m _ (List.getElem_mem hl)
        have st := valOf_take (decDigits m) k hl
        have q1 := valOf_take_le (decDigits m) k
        have q2 := valOf_take_le (decDigits m) (k + 1)
        rw [valOf_dec] at q1 q2
        have hb := byte_at s _ S.out (k + 1) hlt (by simpa using hl)
        simp only [List.getElem_cons_succ] at hb
        generalize (decDigits m)[k].toNat = x at *
        generalize valOf ((decDigits m).take k) = q at *
        have x1 : (48 : Int) ≤ x := by omega
        have x2 : (x : Int) ≤ 57 := by omega
        have n0 : (q : Int) ≤ 400000000 := by omega
        have n1 : (q : Int) * 10 + ((x : Int) - 48) ≤ 400000000 := by omega
        have k1 : (k : Int) < 12 := by omega
        have hk1 : ((k : Int) + 1 == 0) = false := by rw [beq_eq_false_iff_ne]; omega
        have hlt1 : (k : Int) + 1 < (s.size : Int) := by omega
        have ST := Lib.hid st
        have HX := Lib.hid hx
        clear st hx q1 q2 hl hk
        go_wp2_with fail
        go_round
        case rel =>
          have := ST.out
          have := HX.out
          exact ⟨k + 1, k + 1 + 1, by congr 1; omega, by go_num, by go_num, by omega, .inr rfl⟩
        case measure => simp [intOf]; omega
      · have hl2 : decide ((k : Int) + 1 < (s.size : Int)) = false := by simp; omega
        have e1 : (decDigits m).take k = decDigits m := List.take_of_length_le (by have := Z.out; omega)
        rw [e1, valOf_dec]
        have k1 : 0 < (k : Int) := by have := Z.out; omega
        have k2 : (k : Int) ≤ 9 := by omega
        have m1 : (m : Int) ≤ 400000000 := by omega
        have m2 : 0 < (m : Int) := by omega
        have hq := Q.out
        clear e1 hlt hk
        go_wp2_with (first | (go_at_call 45; refine (sIsNum_t _ _ (by omega) (by omega)).mono ?_; rintro e w' ⟨rfl, rfl⟩) | (go_at_call 56; refine (sFmt _ _ (by omega) (by omega)).mono ?_; rintro e w' ⟨rfl, rfl⟩))
        go_ret2
        exact ⟨rfl, rfl⟩

end Go.Proofs.YtihgcccdahmmmaaDoor
