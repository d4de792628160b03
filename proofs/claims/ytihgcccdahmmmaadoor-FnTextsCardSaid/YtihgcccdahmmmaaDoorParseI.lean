/-
  Chapter 1, in the program: ParseInt reads the numerals of numbers, and nothing else.
-/
import Derived.Test.YtihgcccdahmmmaaDoorRows
import Derived.Test.YtihgcccdahmmmaaDoorNumIs
import Derived.Test.YtihgcccdahmmmaaDoorFmt
import Derived.WalkKit
namespace Go.Proofs.YtihgcccdahmmmaaDoor
open Go.RowKit
open Go.Lib (decDigits itoa nDigits)

theorem dig_t (c : Int) (w : World) (h1 : 48 ≤ c) (h2 : c ≤ 57) :
    Calls Tryd.prog 113 #[.int .i32 c] w fun e w' => e = .returned (.tuple #[.int .i64 (c - 48), .bool true]) ∧ w = w' := by
  go_enter Tryd.func113, Tryd.ntmps113
  go_wp2
  go_ret2
  exact ⟨rfl, rfl⟩
theorem dig_f (c : Int) (w : World) (h : ¬ (48 ≤ c ∧ c ≤ 57)) :
    Calls Tryd.prog 113 #[.int .i32 c] w fun e w' => e = .returned (.tuple #[.int .i64 0, .bool false]) ∧ w = w' := by
  by_cases h1 : c < 48
  · clear h
    go_enter Tryd.func113, Tryd.ntmps113
    go_wp2
    go_ret2
    exact ⟨rfl, rfl⟩
  · have h2 : 57 < c := by omega
    have h3 : decide (c < 48) = false := by simpa using h1
    clear h h1
    go_enter Tryd.func113, Tryd.ntmps113
    go_wp2
    go_ret2
    exact ⟨rfl, rfl⟩

/-- Either nothing is read, or a number from 0 on. -/
def PD (w : World) (e : Ending) (w' : World) : Prop :=
  (e = .returned (.tuple #[.int .i64 0, .bool false]) ∨ ∃ m : Nat, m ≤ 400000000 ∧ e = .returned (.tuple #[.int .i64 m, .bool true])) ∧ Below w.heap.size w w'

theorem below_iter (w : World) (s : ByteArray) (pos : Nat) : Below w.heap.size w (w.iter s pos) := (Below.refl _ _).alloc (Nat.le_refl _) _
theorem width_pos (s : ByteArray) (pos : Nat) (h : pos < s.size) : 1 ≤ (Utf8.decode s pos).2 := by
  by_cases ha : (s[pos]'h).toNat < 128
  · rw [decode_ascii s pos h ha]
    exact Nat.le_refl _
  · exact (decode_high s pos h (by omega)).2

set_option maxHeartbeats 400000 in
theorem pd_any (s : ByteArray) (w : World) : Calls Tryd.prog 100 #[.string s] w (PD w) := by
  go_enter Tryd.func100, Tryd.ntmps100
  go_wp2_with fail
  go_loopw [4] (fun n w' => ∃ (pos q : Nat), w' = w.iter s pos ∧ n = .int .i64 q ∧ q ≤ 400000000) (fun _ w' => s.size - w'.iterPos w.heap.size)
  case atStart => exact ⟨0, 0, rfl, rfl, by omega⟩
  case round =>
    obtain ⟨pos, q, rfl, rfl, hq⟩ := hrel
    have hq0 : (q : Int) ≤ 400000000 := by omega
    have HQ := Lib.hid hq
    clear hq
    by_cases hp : pos < s.size
    · obtain ⟨c, hc⟩ : ∃ c, (Utf8.decode s pos).1 = c := ⟨_, rfl⟩
      obtain ⟨d, hd⟩ : ∃ d, (Utf8.decode s pos).2 = d := ⟨_, rfl⟩
      have hnx : ∀ ty, (Instr.next (.pointer (some ⟨w.heap.size, 0, none⟩)) true ty).run Tryd.prog (w.iter s pos) = .ok (.tuple #[.bool true, .int .i64 pos, .int .i32 c]) (w.iter s (pos + d)) := fun ty => by
        have e := run_next_any (P := Tryd.prog) w s pos ty hp
        rw [hc, hd] at e
        exact e
      have W := Lib.hid (width_pos s pos hp)
      have HD := Lib.hid hd
      have HP := Lib.hid hp
      clear hc hd hp
      by_cases h : 48 ≤ (c : Int) ∧ (c : Int) ≤ 57
      · obtain ⟨g1, g2⟩ := h
        by_cases hn : 10 * (q : Int) + ((c : Int) - 48) ≤ 400000000
        · go_wp2_with (first | (go_at_call 113; refine (dig_t _ _ g1 g2).mono ?_; rintro e w' ⟨rfl, rfl⟩) | (go_at_call 69; refine (iIsNum_t _ _ (by omega) (by omega)).mono ?_; rintro e w' ⟨rfl, rfl⟩))
          go_roundw
          case rel =>
            obtain ⟨m, hm⟩ : ∃ m : Nat, 10 * (q : Int) + ((c : Int) - 48) = m := Int.eq_ofNat_of_zero_le (by omega)
            exact ⟨pos + d, m, rfl, by rw [hm], by omega⟩
          case measure =>
            have := W.out
            have := HD.out
            have := HP.out
            simp
            omega
        · go_wp2_with (first | (go_at_call 113; refine (dig_t _ _ g1 g2).mono ?_; rintro e w' ⟨rfl, rfl⟩) | (go_at_call 69; refine (iIsNum_f _ _ (by omega)).mono ?_; rintro e w' ⟨rfl, rfl⟩))
          go_ret2
          exact ⟨.inl rfl, below_iter _ _ _⟩
      · go_wp2_with (go_at_call 113; refine (dig_f _ _ h).mono ?_; rintro e w' ⟨rfl, rfl⟩)
        go_ret2
        exact ⟨.inl rfl, below_iter _ _ _⟩
    · have hnx : ∀ ty, (Instr.next (.pointer (some ⟨w.heap.size, 0, none⟩)) true ty).run Tryd.prog (w.iter s pos) = _ := fun ty => run_next_end w s pos ty hp
      clear hp
      go_wp2_with fail
      go_ret2
      exact ⟨.inr ⟨q, HQ.out, rfl⟩, below_iter _ _ _⟩

set_option maxHeartbeats 400000 in
theorem pd_yes (s : ByteArray) (m : Nat) (hm : m ≤ 400000000) (hs : s.data.toList = decDigits m) (w : World) :
    Calls Tryd.prog 100 #[.string s] w fun e w' => e = .returned (.tuple #[.int .i64 m, .bool true]) ∧ Below w.heap.size w w' := by
  have hsz : s.size = (decDigits m).length := by rw [← hs]; exact Array.length_toList.symm
  have S := Lib.hid hs
  have Z := Lib.hid hsz
  clear hs hsz
  go_enter Tryd.func100, Tryd.ntmps100
  go_wp2_with fail
  go_loopw [4] (fun n w' => ∃ k : Nat, w' = w.iter s k ∧ n = .int .i64 (valOf ((decDigits m).take k)) ∧ k ≤ s.size) (fun _ w' => s.size - w'.iterPos w.heap.size)
  case atStart => exact ⟨0, rfl, rfl, by omega⟩
  case round =>
    obtain ⟨k, rfl, rfl, hk⟩ := hrel
    have q1 := valOf_take_le (decDigits m) k
    rw [valOf_dec] at q1
    by_cases hp : k < s.size
    · have hl : k < (decDigits m).length := by rw [← Z.out]; exact hp
      have hx := dec_digit m _ (List.getElem_mem hl)
      have st := valOf_take (decDigits m) k hl
      have q2 := valOf_take_le (decDigits m) (k + 1)
      rw [valOf_dec] at q2
      have hb : (s[k]'hp).toNat = (decDigits m)[k].toNat := by
        have : s[k]'hp = s.data.toList[k]'(by rw [Array.length_toList]; exact hp) := rfl
        rw [this]
        congr 1
        simp only [S.out]
      have hnx0 := fun ty => run_next_ascii (P := Tryd.prog) w s k ty hp (by omega)
      rw [hb] at hnx0
      generalize (decDigits m)[k].toNat = x at *
      generalize valOf ((decDigits m).take k) = q at *
      have x1 : (48 : Int) ≤ x := by omega
      have x2 : (x : Int) ≤ 57 := by omega
      have n1 : 10 * (q : Int) + ((x : Int) - 48) ≤ 400000000 := by omega
      have ST := Lib.hid st
      have HX := Lib.hid hx
      have HP := Lib.hid hp
      clear st hx hp hb q2 hk hl
      go_wp2_with (first | (go_at_call 113; refine (dig_t _ _ x1 x2).mono ?_; rintro e w' ⟨rfl, rfl⟩) | (go_at_call 69; refine (iIsNum_t _ _ (by omega) (by omega)).mono ?_; rintro e w' ⟨rfl, rfl⟩))
      go_roundw
      case rel =>
        have := ST.out
        have := HX.out
        exact ⟨k + 1, rfl, by congr 1; omega, HP.out⟩
      case measure =>
        have := HP.out
        simp
        omega
    · have hnx : ∀ ty, (Instr.next (.pointer (some ⟨w.heap.size, 0, none⟩)) true ty).run Tryd.prog (w.iter s k) = _ := fun ty => run_next_end w s k ty hp
      have hk' : (decDigits m).take k = decDigits m := List.take_of_length_le (by rw [← Z.out]; omega)
      rw [hk', valOf_dec]
      clear hp hk'
      go_wp2_with fail
      go_ret2
      exact ⟨rfl, below_iter _ _ _⟩

theorem text_ne {l : List UInt8} {s : ByteArray} (h : s.data.toList ≠ l) : (l == s.toList) = false := by
  rw [ByteArray.toList_eq, beq_eq_false_iff_ne]
  exact fun e => h e.symm
theorem text_eq {l : List UInt8} {s : ByteArray} (h : s.data.toList = l) : (l == s.toList) = true := by
  rw [ByteArray.toList_eq, beq_iff_eq]
  exact h.symm

set_option maxHeartbeats 400000 in
theorem iParse_no (s : ByteArray) (h : ∀ v : Int, -400000000 ≤ v → v ≤ 400000000 → s.data.toList ≠ itoa v) (w : World) (ht : Tab w) :
    Calls Tryd.prog 89 #[.string s] w fun e w' => e = .returned (.tuple #[.int .i64 0, .bool false]) ∧ Below w.heap.size w w' := by
  have H := Lib.hid h
  have T := Lib.hid ht
  clear h ht
  go_enter Tryd.func89, Tryd.ntmps89
  go_wp2_with fail
  refine (Tryd.strings_CutPrefix _ _ _).mono ?_
  rintro e w' ⟨rfl, rfl⟩
  generalize Lib.trimPrefix _ _ = t
  generalize Lib.hasPrefix _ _ = b
  go_wp2_with fail
  refine (pd_any _ _).mono ?_
  rintro e w1 ⟨he, hb⟩
  have B := Lib.hid hb
  clear hb
  rcases he with rfl | ⟨m, hm, rfl⟩
  · cases b with
    | true =>
      go_wp2_with fail
      go_ret2
      exact ⟨rfl, B.out⟩
    | false =>
      go_wp2_with fail
      go_ret2
      exact ⟨rfl, B.out⟩
  · have T1 := Lib.hid (T.out.below B.out)
    have hm' : (m : Int) ≤ 400000000 := by omega
    cases b with
    | true =>
      go_wp2_with fail
      refine (iFmt _ _ (by omega) (by omega) T1.out).mono ?_
      rintro e w2 ⟨rfl, hb2⟩
      have B2 := Lib.hid (B.out.trans (hb2.mono B.out.size))
      have hne := text_ne (H.out (-(m : Int)) (by omega) (by omega))
      clear hb2
      go_wp2_with fail
      go_ret2
      exact ⟨rfl, B2.out⟩
    | false =>
      go_wp2_with fail
      refine (iFmt _ _ (by omega) (by omega) T1.out).mono ?_
      rintro e w2 ⟨rfl, hb2⟩
      have B2 := Lib.hid (B.out.trans (hb2.mono B.out.size))
      have hne := text_ne (H.out (m : Int) (by omega) (by omega))
      clear hb2
      go_wp2_with fail
      go_ret2
      exact ⟨rfl, B2.out⟩

theorem cut_pos (u : Nat) : Lib.trimPrefix (decDigits u) [45] = decDigits u ∧ Lib.hasPrefix (decDigits u) [45] = false := by
  have h : Lib.hasPrefix (decDigits u) [45] = false := by
    have hh := head_dec u
    unfold Lib.hasPrefix
    cases hd : decDigits u with
    | nil => rfl
    | cons c r =>
      rw [hd] at hh
      simp only [List.head?_cons, ne_eq, Option.some.injEq] at hh
      simp only [List.isPrefixOf, Bool.and_true, beq_eq_false_iff_ne]
      exact fun e => hh e.symm
  exact ⟨by unfold Lib.trimPrefix; rw [h]; rfl, h⟩
theorem cut_neg (u : Nat) : Lib.trimPrefix (45 :: decDigits u) [45] = decDigits u ∧ Lib.hasPrefix (45 :: decDigits u) [45] = true := by
  have h : Lib.hasPrefix (45 :: decDigits u) [45] = true := by
    unfold Lib.hasPrefix
    simp [List.isPrefixOf]
  exact ⟨by unfold Lib.trimPrefix; rw [h]; rfl, h⟩

set_option maxHeartbeats 400000 in
theorem iParse_yes (s : ByteArray) (v : Int) (h1 : -400000000 ≤ v) (h2 : v ≤ 400000000) (hs : s.data.toList = itoa v) (w : World) (ht : Tab w) :
    Calls Tryd.prog 89 #[.string s] w fun e w' => e = .returned (.tuple #[.int .i64 v, .bool true]) ∧ Below w.heap.size w w' := by
  have hq := text_eq hs
  have S := Lib.hid hs
  have T := Lib.hid ht
  have Q := Lib.hid hq
  clear hs ht hq
  by_cases hv : v < 0
  · obtain ⟨m, rfl⟩ : ∃ m : Nat, v = -(m : Int) := ⟨v.natAbs, by omega⟩
    have hm : (m : Int) ≤ 400000000 := by omega
    have e : s.data.toList = 45 :: decDigits m := by rw [S.out, Lib.itoa_neg m (by omega)]
    have E := Lib.hid e
    clear e
    go_enter Tryd.func89, Tryd.ntmps89
    go_wp2_with fail
    refine (Tryd.strings_CutPrefix _ _ _).mono ?_
    rintro e w' ⟨rfl, rfl⟩
    rw [E.out]
    rw [show (ByteArray.mk #[45]).data.toList = [45] from rfl, (cut_neg m).1, (cut_neg m).2]
    go_wp2_with fail
    refine (pd_yes _ m (by omega) (by simp) _).mono ?_
    rintro e w1 ⟨rfl, hb⟩
    have B := Lib.hid hb
    have T1 := Lib.hid (T.out.below hb)
    clear hb
    go_wp2_with fail
    refine (iFmt _ _ (by omega) (by omega) T1.out).mono ?_
    rintro e w2 ⟨rfl, hb2⟩
    have B2 := Lib.hid (B.out.trans (hb2.mono B.out.size))
    have hq := Q.out
    clear hb2
    go_wp2_with fail
    go_ret2
    exact ⟨rfl, B2.out⟩
  · obtain ⟨m, rfl⟩ := Int.eq_ofNat_of_zero_le (show 0 ≤ v by omega)
    have e : s.data.toList = decDigits m := by rw [S.out, Lib.itoa_nonneg]
    have E := Lib.hid e
    clear e
    go_enter Tryd.func89, Tryd.ntmps89
    go_wp2_with fail
    refine (Tryd.strings_CutPrefix _ _ _).mono ?_
    rintro e w' ⟨rfl, rfl⟩
    rw [E.out]
    rw [show (ByteArray.mk #[45]).data.toList = [45] from rfl, (cut_pos m).1, (cut_pos m).2]
    go_wp2_with fail
    refine (pd_yes _ m (by omega) (by simp) _).mono ?_
    rintro e w1 ⟨rfl, hb⟩
    have B := Lib.hid hb
    have T1 := Lib.hid (T.out.below hb)
    clear hb
    go_wp2_with fail
    refine (iFmt _ _ (by omega) (by omega) T1.out).mono ?_
    rintro e w2 ⟨rfl, hb2⟩
    have B2 := Lib.hid (B.out.trans (hb2.mono B.out.size))
    have hq := Q.out
    clear hb2
    go_wp2_with fail
    go_ret2
    exact ⟨rfl, B2.out⟩

end Go.Proofs.YtihgcccdahmmmaaDoor
