/-
  Plain mathematics of decimal numerals: how they are made digit by digit, how they are read back. No program is imported.
-/
import Derived.WalkKit
import Derived.Lib.ItoaMem
namespace Go.Proofs.YtihgcccdahmmmaaDoor
open Go.Lib (decDigits itoa nDigits)

/-- The digits of u, none for 0. -/
def dd (u : Nat) : List UInt8 := if u = 0 then [] else decDigits u
theorem dd_zero : dd 0 = [] := rfl
theorem dd_pos {u : Nat} (h : u ≠ 0) : dd u = decDigits u := if_neg h
theorem dd_step (u : Nat) (h : u ≠ 0) : dd u = dd (u / 10) ++ [UInt8.ofNat (48 + u % 10)] := by
  rw [dd_pos h]
  by_cases h10 : u < 10
  · rw [decDigits, dif_pos h10, show u / 10 = 0 from by omega, dd_zero, show u % 10 = u from by omega]
    rfl
  · rw [decDigits, dif_neg h10, dd_pos (by omega)]

/-- What a text of digits says. -/
def valOf (l : List UInt8) : Nat := l.foldl (fun a c => a * 10 + (c.toNat - 48)) 0
theorem valOf_snoc (l : List UInt8) (c : UInt8) : valOf (l ++ [c]) = valOf l * 10 + (c.toNat - 48) := by simp [valOf]
theorem digit_toNat (k : Nat) (h : k < 10) : (UInt8.ofNat (48 + k)).toNat = 48 + k := by
  rw [UInt8.toNat_ofNat']; omega
theorem valOf_dd (u : Nat) : valOf (dd u) = u := by
  induction u using Nat.strongRecOn with
  | _ u ih =>
    by_cases h : u = 0
    · subst h; rfl
    · rw [dd_step u h, valOf_snoc, ih (u / 10) (by omega), digit_toNat _ (by omega)]
      omega
theorem decDigits_zero : decDigits 0 = [48] := by rw [decDigits, dif_pos (by omega)]; rfl
theorem valOf_dec (u : Nat) : valOf (decDigits u) = u := by
  by_cases h : u = 0
  · subst h; rw [decDigits_zero]; rfl
  · rw [← dd_pos h]; exact valOf_dd u
theorem dec_digit (u : Nat) : ∀ c ∈ decDigits u, 48 ≤ c.toNat ∧ c.toNat ≤ 57 := by
  induction u using Nat.strongRecOn with
  | _ u ih =>
    intro c hc
    rw [decDigits] at hc
    split at hc
    · simp only [List.mem_singleton] at hc
      subst hc
      rw [digit_toNat _ (by omega)]; omega
    · rcases List.mem_append.1 hc with hc | hc
      · exact ih _ (by omega) c hc
      · simp only [List.mem_singleton] at hc
        subst hc
        rw [digit_toNat _ (by omega)]; omega
theorem dec_ne (u : Nat) : decDigits u ≠ [] := by
  intro h
  have := Go.Lib.decDigits_length u
  have := Go.Lib.nDigits_pos u
  rw [h] at *
  simp at *
  omega
theorem dec_len (u : Nat) : (decDigits u).length = nDigits u := Go.Lib.decDigits_length u
theorem nDigits_le (k u : Nat) (h : u < 10 ^ (k + 1)) : nDigits u ≤ k + 1 := by
  induction k generalizing u with
  | zero => rw [Go.Lib.nDigits_small (by simpa using h)]; exact Nat.le_refl _
  | succ k ih =>
    by_cases h10 : u < 10
    · rw [Go.Lib.nDigits_small h10]; omega
    · rw [Go.Lib.nDigits_big h10]
      have := ih (u / 10) (by rw [Nat.pow_succ] at h; omega)
      omega
theorem head_dec (u : Nat) : (decDigits u).head? ≠ some 45 := by
  intro h
  have hm : (45 : UInt8) ∈ decDigits u := List.mem_of_head? h
  have := dec_digit u 45 hm
  simp at this
theorem itoa_inj (n m : Int) (h : itoa n = itoa m) : n = m := by
  unfold itoa at h
  split at h <;> split at h
  · have := congrArg valOf (List.cons.inj h).2
    rw [valOf_dec, valOf_dec] at this
    omega
  · exact absurd (by rw [← h]; rfl) (head_dec m.toNat)
  · exact absurd (by rw [h]; rfl) (head_dec n.toNat)
  · have := congrArg valOf h
    rw [valOf_dec, valOf_dec] at this
    omega
/-- The value of the first k digits: one more digit. -/
theorem valOf_take (l : List UInt8) (k : Nat) (h : k < l.length) : valOf (l.take (k + 1)) = valOf (l.take k) * 10 + (l[k].toNat - 48) := by
  rw [List.take_succ_eq_append_getElem h, valOf_snoc]
theorem valOf_mono (l : List UInt8) (k d : Nat) : valOf (l.take k) ≤ valOf (l.take (k + d)) := by
  induction d with
  | zero => exact Nat.le_refl _
  | succ d ih =>
    by_cases h : k + d < l.length
    · have := valOf_take l (k + d) h
      rw [← Nat.add_assoc, this]
      omega
    · rw [List.take_of_length_le (i := k + (d + 1)) (by omega)]
      rwa [List.take_of_length_le (i := k + d) (by omega)] at ih
theorem valOf_take_le (l : List UInt8) (k : Nat) : valOf (l.take k) ≤ valOf l := by
  have := valOf_mono l k l.length
  rwa [List.take_of_length_le (i := k + l.length) (by omega)] at this

end Go.Proofs.YtihgcccdahmmmaaDoor
