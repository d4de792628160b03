/-
  Chapter 4, in the model: FormatInts, FormatRatio's parts: texts by concatenation.
-/
import Derived.Test.YtihgcccdahmmmaaDoorFmt
import Derived.Test.YtihgcccdahmmmaaDoorTextMath
namespace Go.Proofs.YtihgcccdahmmmaaDoor
open Go.RowKit
open Go.Lib (decDigits itoa nDigits)

/-- Two texts, one behind the other. -/
theorem cat_eq (x y z : List UInt8) (e : x ++ y = z) (h : x.length + y.length ≤ 1000000000) : ∀ w : World, (Op.stringOp .add ⟨x.toArray⟩ ⟨y.toArray⟩).run Tryd.prog w = .ok (.string ⟨z.toArray⟩) w := by
  intro w
  subst e
  rw [run_string_add_sum w _ _ (by simp [ByteArray.size]; omega), ByteArray.mk_append_mk]

set_option maxHeartbeats 400000 in
theorem sFormatInts (a : Option Addr) (cap : Nat) (xs : List Int) (w : World) (h : Rd w a xs) (hn : xs.length ≤ 16777216) (hr : I64 xs) :
    Calls Tryd.prog 27 #[.slice a xs.length cap] w fun e w' => e = .returned (.string ⟨(itx xs xs.length).toArray⟩) ∧ w = w' := by
  have H := Lib.hid h
  have HR := Lib.hid hr
  clear h hr
  go_enter Tryd.func27, Tryd.ntmps27
  go_wp2
  go_loop [3, 4] (fun s x => ∃ i : Nat, s = .string ⟨(itx xs i).toArray⟩ ∧ x = .int .i64 i ∧ i ≤ xs.length) (fun _ x => xs.length - (intOf x).toNat)
  case atStart => exact ⟨0, rfl, rfl, Nat.zero_le _⟩
  case round =>
    obtain ⟨i, rfl, rfl, hi⟩ := hrel
    rcases Nat.lt_or_ge i xs.length with hlt | hge
    · obtain ⟨b, o, ha, hc⟩ := H.out i hlt
      obtain ⟨z, hz⟩ : ∃ z, xs.getD i 0 = z := ⟨_, rfl⟩
      have hb := HR.out i
      have hl := itx_len HR.out i
      rw [hz] at hc hb
      have hz20 := itoa_len z hb.1 hb.2
      obtain ⟨l, el⟩ : ∃ l, itx xs i = l := ⟨_, rfl⟩
      obtain ⟨t, et⟩ : ∃ t, itx xs (i + 1) = t := ⟨_, rfl⟩
      rw [el] at hl ⊢
      have ilt : (i : Int) < xs.length := by omega
      have i0 : (0 : Int) ≤ i := by omega
      have i1 : (i : Int) ≤ 16777216 := by omega
      have TS : Hid (∀ z', z' = z → t = (if 0 < i then l ++ [32] else l) ++ itoa z') := by
        show ∀ z', z' = z → t = (if 0 < i then l ++ [32] else l) ++ itoa z'
        rintro z' rfl
        rw [← et, ← hz, ← el]; rfl
      have ET := Lib.hid et
      have HI := Lib.hid hlt
      obtain ⟨hb1, hb2⟩ := hb
      have SF : ∀ w1 : World, Calls Tryd.prog 56 #[.int .i64 z] w1 fun e w' => e = .returned (.string ⟨(itoa z).toArray⟩) ∧ w1 = w' := fun w1 => sFmt z w1 hb1 hb2
      obtain ⟨q, hq⟩ : ∃ q, itoa z = q := ⟨_, rfl⟩
      have TS2 : Hid (t = (if 0 < i then l ++ [32] else l) ++ q) := by
        show t = (if 0 < i then l ++ [32] else l) ++ q
        rw [← hq]; exact TS.out z rfl
      rw [hq] at SF hz20
      clear TS hz el et hq hlt
      subst ha
      rcases Nat.eq_zero_or_pos i with h0 | h0
      · have hcat := cat_eq l q t (by rw [TS2.out, if_neg (by omega)]) (by omega)
        rw [h0, Nat.add_zero] at hc
        clear hl hz20
        go_wp2_with (go_at_call 56; refine (SF _).mono ?_; rintro e w' ⟨rfl, rfl⟩)
        go_round
        case rel => exact ⟨i + 1, by rw [ET.out], by go_num, HI.out⟩
        case measure => have := HI.out; simp [intOf]; omega
      · have hcat1 := cat_eq l [32] (l ++ [32]) rfl (by simp; omega)
        obtain ⟨l2, e2⟩ : ∃ l2, l ++ [32] = l2 := ⟨_, rfl⟩
        have len2 : l2.length = l.length + 1 := by rw [← e2]; simp
        rw [e2] at hcat1
        have hcat2 := cat_eq l2 q t (by rw [TS2.out, if_pos h0, e2]) (by omega)
        have d0 : decide (0 < (i : Int)) = true := decide_eq_true (by omega)
        clear hl hz20 e2 len2
        go_wp2_with (go_at_call 56; refine (SF _).mono ?_; rintro e w' ⟨rfl, rfl⟩)
        go_round
        case rel => exact ⟨i + 1, by rw [ET.out], by go_num, HI.out⟩
        case measure => have := HI.out; simp [intOf]; omega
    · obtain rfl : i = xs.length := by omega
      go_wp2
      go_ret
      exact ⟨rfl, rfl⟩
end Go.Proofs.YtihgcccdahmmmaaDoor
