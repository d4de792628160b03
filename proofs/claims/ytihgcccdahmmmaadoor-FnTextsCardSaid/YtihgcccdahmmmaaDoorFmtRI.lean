/-
  Chapter 4, in the program: FormatRatio.
-/
import Derived.Test.YtihgcccdahmmmaaDoorFmtR
import Derived.Test.YtihgcccdahmmmaaDoorRatI2
import Derived.Deep.RegionHeld3
namespace Go.Proofs.YtihgcccdahmmmaaDoor
open Go.RowKit
open Go.Lib (decDigits itoa nDigits)

/-- What stays through the region: two cells, the table, all that was there. -/
theorem keepF {w0 W w' : World} {b : Nat} {p q : Value} (h : W.cell? ⟨b, 0, none⟩ = some p ∧ W.cell? ⟨b, 1, none⟩ = some q ∧ Tab W ∧ Below w0.heap.size w0 W) (hb : Below W.heap.size W w') :
    w'.cell? ⟨b, 0, none⟩ = some p ∧ w'.cell? ⟨b, 1, none⟩ = some q ∧ Tab w' ∧ Below w0.heap.size w0 w' :=
  ⟨(hb.cell (World.block_lt_of_cell? W _ h.1)).trans h.1, (hb.cell (World.block_lt_of_cell? W _ h.2.1)).trans h.2.1, h.2.2.1.below hb, h.2.2.2.trans (hb.mono h.2.2.2.size)⟩

set_option maxHeartbeats 1000000 in
theorem iFormatRatio (n d : Int) (w : World) (tb : Tab w) : Calls Tryd.prog 18 #[.agg #[.int .i64 n, .int .i64 d]] w (Gives (.string ⟨(ratText n d).toArray⟩) w) := by
  have TB := Lib.hid tb
  clear tb
  have ST := iIsRat n d (w.alloc (.cells #[.int .i64 n, .int .i64 d] 35))
  rcases Bool.eq_false_or_eq_true (isRat n d) with hm | hm
  · obtain ⟨d1, d2, n1, n2, -⟩ : IsRatP n d := of_decide_eq_true hm
    have SN : ∀ w1 : World, Tab w1 → Calls Tryd.prog 41 #[.int .i64 n] w1 (Gives (.string ⟨(itoa n).toArray⟩) w1) := fun w1 t1 => iFmt n w1 (by omega) (by omega) t1
    have SD : ∀ w1 : World, Tab w1 → Calls Tryd.prog 41 #[.int .i64 d] w1 (Gives (.string ⟨(itoa d).toArray⟩) w1) := fun w1 t1 => iFmt d w1 (by omega) (by omega) t1
    have lN := itoa_len n (by omega) (by omega)
    have lD := itoa_len d (by omega) (by omega)
    obtain ⟨t, et⟩ : ∃ t, ratText n d = t := ⟨_, rfl⟩
    obtain ⟨qn, en⟩ : ∃ q, itoa n = q := ⟨_, rfl⟩
    obtain ⟨qd, ed⟩ : ∃ q, itoa d = q := ⟨_, rfl⟩
    have T : Hid (t = if d = 1 then qn else qn ++ [47] ++ qd) := by
      show t = _
      rw [← et, ← en, ← ed]; unfold ratText; rw [if_pos hm]
    rw [et]
    rw [en] at SN lN
    rw [ed] at SD lD
    rw [hm] at ST
    clear et en ed hm
    have SNH := Lib.hid SN
    have SDH := Lib.hid SD
    clear SN SD
    by_cases h1 : d = 1
    · have hd : (d == 1) = true := by simp [h1]
      have E : Hid (t = qn) := Lib.hid (by rw [T.out, if_pos h1])
      clear h1
      go_enter Tryd.func18, Tryd.ntmps18
      go_wp2_with fail
      refine ST.mono ?_
      clear ST
      rintro e w1 ⟨rfl, hb⟩
      have B : Hid (Below w.heap.size w w1) := ((Below.refl _ _).alloc (Nat.le_refl _) _).trans (hb.mono (by simp))
      have e0 : w1.cell? ⟨w.heap.size, 0, none⟩ = some (.int .i64 n) := (hb.cell (p := ⟨w.heap.size, 0, none⟩) (by simp)).trans (new_cell2 _ _ _ _ _ rfl)
      have e1 : w1.cell? ⟨w.heap.size, 1, none⟩ = some (.int .i64 d) := (hb.cell (p := ⟨w.heap.size, 1, none⟩) (by simp)).trans (new_cell2 _ _ _ _ _ rfl)
      clear hb
      go_wp2_with fail
      refine (SNH.out _ (TB.out.below B.out)).mono ?_
      rintro e w2 ⟨rfl, hb⟩
      have B2 : Hid (Below w.heap.size w w2) := B.out.trans (hb.mono B.out.size)
      clear hb
      go_wp2_with fail
      go_ret
      exact ⟨by rw [E.out]; rfl, B2.out⟩
    · have hd : (d == 1) = false := by simp [h1]
      obtain ⟨t2, e2⟩ : ∃ q, qn ++ [47] = q := ⟨_, rfl⟩
      have cat1 := cat_eq qn [47] t2 e2 (by simp only [List.length_cons, List.length_nil]; omega)
      have l2 : t2.length ≤ 21 := by rw [← e2]; simp only [List.length_append, List.length_cons, List.length_nil]; omega
      have cat2 := cat_eq t2 qd t (by rw [T.out, if_neg h1, e2]) (by omega)
      clear e2 l2 lN lD h1
      go_enter Tryd.func18, Tryd.ntmps18
      go_wp2_with fail
      refine ST.mono ?_
      clear ST
      rintro e w1 ⟨rfl, hb⟩
      have B : Below w.heap.size w w1 := ((Below.refl _ _).alloc (Nat.le_refl _) _).trans (hb.mono (by simp))
      have e0 : w1.cell? ⟨w.heap.size, 0, none⟩ = some (.int .i64 n) := (hb.cell (p := ⟨w.heap.size, 0, none⟩) (by simp)).trans (new_cell2 _ _ _ _ _ rfl)
      have e1 : w1.cell? ⟨w.heap.size, 1, none⟩ = some (.int .i64 d) := (hb.cell (p := ⟨w.heap.size, 1, none⟩) (by simp)).trans (new_cell2 _ _ _ _ _ rfl)
      have hS := Lib.hid (And.intro e0 (And.intro e1 (And.intro (TB.out.below B) B)))
      clear hb B
      go_wp2_with fail
      go_region_held3 (fun w' => w'.cell? ⟨w.heap.size, 0, none⟩ = some (.int .i64 n) ∧ w'.cell? ⟨w.heap.size, 1, none⟩ = some (.int .i64 d) ∧ Tab w' ∧ Below w.heap.size w w') (first | exact keepF hS.out (Below.refl _ _).drew | with_reducible exact keepF ‹_› ‹_›)
        (first
        | (go_at_call 41; (with_reducible refine (SNH.out _ (And.left (And.right (And.right ‹_›)))).mono ?_); rintro e w1 ⟨rfl, hb1⟩)
        | (go_at_call 41; (with_reducible refine (SDH.out _ (And.left (And.right (And.right ‹_›)))).mono ?_); rintro e w1 ⟨rfl, hb1⟩))
      all_goals
        go_wp2_with fail
        go_ret
        exact ⟨rfl, (And.right (And.right (And.right ‹_ ∧ _ ∧ Tab _ ∧ Below w.heap.size w _›)))⟩
  · have E : Hid (ratText n d = [110, 111, 110, 101]) := Lib.hid (by unfold ratText; rw [if_neg (by rw [hm]; decide)])
    rw [hm] at ST
    clear hm
    rw [E.out]
    go_enter Tryd.func18, Tryd.ntmps18
    go_wp2_with fail
    refine ST.mono ?_
    clear ST
    rintro e w1 ⟨rfl, hb⟩
    have B : Hid (Below w.heap.size w w1) := ((Below.refl _ _).alloc (Nat.le_refl _) _).trans (hb.mono (by simp))
    clear hb
    go_wp2_with fail
    go_ret
    exact ⟨rfl, B.out⟩
end Go.Proofs.YtihgcccdahmmmaaDoor
