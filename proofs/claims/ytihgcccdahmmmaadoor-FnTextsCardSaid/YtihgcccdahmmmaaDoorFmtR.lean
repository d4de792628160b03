/-
  Chapter 4, in the model: FormatRatio.
-/
import Derived.Test.YtihgcccdahmmmaaDoorFmtS
import Derived.Test.YtihgcccdahmmmaaDoorRatS
namespace Go.Proofs.YtihgcccdahmmmaaDoor
open Go.RowKit
open Go.Lib (decDigits itoa nDigits)

/-- The text of a ratio. -/
def ratText (n d : Int) : List UInt8 := if isRat n d = true then (if d = 1 then itoa n else itoa n ++ [47] ++ itoa d) else [110, 111, 110, 101]

/-- A new block of two cells. -/
theorem new_cell2 (w : World) (cs : Array Value) (t : TypeId) (i : Nat) (v : Value) (h : cs[i]? = some v := by rfl) : (w.alloc (.cells cs t)).cell? ⟨w.heap.size, i, none⟩ = some v := by
  have e := heap_alloc_new w (.cells cs t)
  unfold World.cell?
  simp only [e]
  exact h

set_option maxHeartbeats 400000 in
theorem sFormatRatio (n d : Int) (w : World) : Calls Tryd.prog 31 #[.agg #[.int .i64 n, .int .i64 d]] w (Gives (.string ⟨(ratText n d).toArray⟩) w) := by
  have ST : Calls Tryd.prog 19 #[.agg #[.int .i64 n, .int .i64 d]] (w.alloc (.cells #[.int .i64 n, .int .i64 d] 35)) (Gives (.bool (isRat n d)) _) := sIsRat n d _
  rcases Bool.eq_false_or_eq_true (isRat n d) with hm | hm
  · obtain ⟨d1, d2, n1, n2, -⟩ : IsRatP n d := of_decide_eq_true hm
    have SN : ∀ w1 : World, Calls Tryd.prog 56 #[.int .i64 n] w1 fun e w' => e = .returned (.string ⟨(itoa n).toArray⟩) ∧ w1 = w' := fun w1 => sFmt n w1 (by omega) (by omega)
    have SD : ∀ w1 : World, Calls Tryd.prog 56 #[.int .i64 d] w1 fun e w' => e = .returned (.string ⟨(itoa d).toArray⟩) ∧ w1 = w' := fun w1 => sFmt d w1 (by omega) (by omega)
    have lN := itoa_len n (by omega) (by omega)
    have lD := itoa_len d (by omega) (by omega)
    obtain ⟨t, et⟩ : ∃ t, ratText n d = t := ⟨_, rfl⟩
    obtain ⟨qn, en⟩ : ∃ q, itoa n = q := ⟨_, rfl⟩
    obtain ⟨qd, ed⟩ : ∃ q, itoa d = q := ⟨_, rfl⟩
    have T : Hid (t = if d = 1 then qn else qn ++ [47] ++ qd) := by
      show t = _
      rw [← et, ← en, ← ed]; unfold ratText; rw [if_pos hm]
    rw [et]
    rw [en] at SN lN
    rw [ed] at SD lD
    rw [hm] at ST
    clear et en ed hm
    by_cases h1 : d = 1
    · have hd : (d == 1) = true := by simp [h1]
      have E : Hid (t = qn) := Lib.hid (by rw [T.out, if_pos h1])
      clear SD h1
      go_enter Tryd.func31, Tryd.ntmps31
      go_wp2_with fail
      refine ST.mono ?_
      clear ST
      rintro e w1 ⟨rfl, hb⟩
      have B : Hid (Below w.heap.size w w1) := ((Below.refl _ _).alloc (Nat.le_refl _) _).trans (hb.mono (by simp))
      have e0 : w1.cell? ⟨w.heap.size, 0, none⟩ = some (.int .i64 n) := (hb.cell (p := ⟨w.heap.size, 0, none⟩) (by simp)).trans (new_cell2 _ _ _ _ _ rfl)
      have e1 : w1.cell? ⟨w.heap.size, 1, none⟩ = some (.int .i64 d) := (hb.cell (p := ⟨w.heap.size, 1, none⟩) (by simp)).trans (new_cell2 _ _ _ _ _ rfl)
      clear hb
      go_wp2_with (go_at_call 56; refine (SN _).mono ?_; rintro e w' ⟨rfl, rfl⟩)
      go_ret
      exact ⟨by rw [E.out]; rfl, B.out⟩
    · have hd : (d == 1) = false := by simp [h1]
      obtain ⟨t2, e2⟩ : ∃ q, qn ++ [47] = q := ⟨_, rfl⟩
      have cat1 := cat_eq qn [47] t2 e2 (by simp only [List.length_cons, List.length_nil]; omega)
      have l2 : t2.length ≤ 21 := by rw [← e2]; simp only [List.length_append, List.length_cons, List.length_nil]; omega
      have cat2 := cat_eq t2 qd t (by rw [T.out, if_neg h1, e2]) (by omega)
      clear e2 l2 lN lD h1
      go_enter Tryd.func31, Tryd.ntmps31
      go_wp2_with fail
      refine ST.mono ?_
      clear ST
      rintro e w1 ⟨rfl, hb⟩
      have B : Hid (Below w.heap.size w w1) := ((Below.refl _ _).alloc (Nat.le_refl _) _).trans (hb.mono (by simp))
      have e0 : w1.cell? ⟨w.heap.size, 0, none⟩ = some (.int .i64 n) := (hb.cell (p := ⟨w.heap.size, 0, none⟩) (by simp)).trans (new_cell2 _ _ _ _ _ rfl)
      have e1 : w1.cell? ⟨w.heap.size, 1, none⟩ = some (.int .i64 d) := (hb.cell (p := ⟨w.heap.size, 1, none⟩) (by simp)).trans (new_cell2 _ _ _ _ _ rfl)
      clear hb
      go_wp2_with fail
      go_quiet ((first | (with_reducible refine (SN _).mono ?_; rintro e wq ⟨rfl, rfl⟩; exact ⟨rfl, _, rfl⟩) | (with_reducible refine (SD _).mono ?_; rintro e wq ⟨rfl, rfl⟩; exact ⟨rfl, _, rfl⟩)))
      go_wp2_with fail
      go_ret
      exact ⟨rfl, B.out.os, B.out.tape, B.out.output, B.out.size, B.out.block⟩
  · have E : Hid (ratText n d = [110, 111, 110, 101]) := Lib.hid (by unfold ratText; rw [if_neg (by rw [hm]; decide)])
    rw [hm] at ST
    clear hm
    rw [E.out]
    go_enter Tryd.func31, Tryd.ntmps31
    go_wp2_with fail
    refine ST.mono ?_
    clear ST
    rintro e w1 ⟨rfl, hb⟩
    have B : Hid (Below w.heap.size w w1) := ((Below.refl _ _).alloc (Nat.le_refl _) _).trans (hb.mono (by simp))
    clear hb
    go_wp2_with fail
    go_ret
    exact ⟨rfl, B.out⟩
end Go.Proofs.YtihgcccdahmmmaaDoor
