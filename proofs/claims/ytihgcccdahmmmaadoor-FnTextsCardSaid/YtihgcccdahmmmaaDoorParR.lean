/-
  Chapter 4, in the model: ParseRatio.
-/
import Derived.Test.YtihgcccdahmmmaaDoorParRMath
namespace Go.Proofs.YtihgcccdahmmmaaDoor
open Go.RowKit
open Go.Lib (decDigits itoa nDigits)

/-- The denominator that a text's pieces say. -/
noncomputable def denT (ls : List (List UInt8)) : Int := if 1 < ls.length then (numT (ls.getD 1 [])).1 else 1
/-- The ratio that the pieces say. -/
noncomputable def ratT (s : List UInt8) : Int × Int := mkRat (numT ((split [47] s).getD 0 [])).1 (denT (split [47] s))
/-- What the model's ParseRatio answers. -/
noncomputable def parR (s : List UInt8) : (Int × Int) × Bool := if isRat (ratT s).1 (ratT s).2 = true ∧ ratText (ratT s).1 (ratT s).2 = s then (ratT s, true) else ((0, 0), false)
def parV (x : (Int × Int) × Bool) : Value := .tuple #[ratV x.1, .bool x.2]

set_option maxRecDepth 20000 in
set_option maxHeartbeats 1000000 in
theorem sParseRatio (s : List UInt8) (w : World) (hs : s.length ≤ 16777216) : Calls Tryd.prog 33 #[.string ⟨s.toArray⟩] w (Gives (parV (parR s)) w) := by
  have SP : ∀ w : World, Calls Tryd.prog 57 #[.string ⟨s.toArray⟩, .string ⟨#[47]⟩] w fun e w' => ∃ v, e = .returned v ∧ Texts w.heap.size w' v (split [47] s) ∧ Below w.heap.size w w' := fun w => sSplit s [47] w hs (by decide)
  have hlen := split_len [47] s
  have hne := split_ne [47] s
  have P0 : ∀ w : World, Calls Tryd.prog 58 #[.string ⟨((split [47] s).getD 0 []).toArray⟩] w fun e w' => e = .returned (.tuple #[.int .i64 (numT ((split [47] s).getD 0 [])).1, .bool (numT ((split [47] s).getD 0 [])).2]) ∧ w = w' := fun w => sParse _ w (by have := split_at [47] s 0; omega)
  have P1 : ∀ w : World, Calls Tryd.prog 58 #[.string ⟨((split [47] s).getD 1 []).toArray⟩] w fun e w' => e = .returned (.tuple #[.int .i64 (numT ((split [47] s).getD 1 [])).1, .bool (numT ((split [47] s).getD 1 [])).2]) ∧ w = w' := fun w => sParse _ w (by have := split_at [47] s 1; omega)
  obtain ⟨r1, r2, hr⟩ : ∃ r1 r2, ratT s = (r1, r2) := ⟨_, _, rfl⟩
  have MK : ∀ w : World, Calls Tryd.prog 62 #[.int .i64 (numT ((split [47] s).getD 0 [])).1, .int .i64 (denT (split [47] s))] w (Gives (.agg #[.int .i64 r1, .int .i64 r2]) w) := fun w => by
    have := sMk (numT ((split [47] s).getD 0 [])).1 (denT (split [47] s)) w
    have e : mkRat (numT ((split [47] s).getD 0 [])).1 (denT (split [47] s)) = (r1, r2) := hr
    rw [e] at this
    exact this
  have D : Hid (denT (split [47] s) = if 1 < (split [47] s).length then (numT ((split [47] s).getD 1 [])).1 else 1) := Lib.hid rfl
  have PR : Hid (parR s = if isRat r1 r2 = true ∧ ratText r1 r2 = s then ((r1, r2), true) else ((0, 0), false)) := Lib.hid (by unfold parR; rw [hr])
  obtain ⟨ls, hls⟩ : ∃ l, split [47] s = l := ⟨_, rfl⟩
  rw [hls] at SP hlen hne P0 P1 MK D
  obtain ⟨d, hd⟩ : ∃ d, denT ls = d := ⟨_, rfl⟩
  rw [hd] at MK D
  obtain ⟨q0, hq0⟩ : ∃ q, ls.getD 0 [] = q := ⟨_, rfl⟩
  obtain ⟨q1, hq1⟩ : ∃ q, ls.getD 1 [] = q := ⟨_, rfl⟩
  rw [hq0] at P0 MK
  rw [hq1] at P1 D
  obtain ⟨n0, b0, hn0⟩ : ∃ n b, numT q0 = (n, b) := ⟨_, _, rfl⟩
  obtain ⟨n1, b1, hn1⟩ : ∃ n b, numT q1 = (n, b) := ⟨_, _, rfl⟩
  rw [hn0] at P0 MK
  rw [hn1] at P1 D
  have Q0 := Lib.hid hq0
  have Q1 := Lib.hid hq1
  have IR := sIsRat r1 r2
  have FR := sFormatRatio r1 r2
  have n1' : (ls.length : Int) ≤ 16777217 := by omega
  have n0' : (0 : Int) < ls.length := by have := List.length_pos_iff.mpr hne; omega
  have NE := Lib.hid hne
  have z0 := List.length_pos_iff.mpr hne
  have Z0 := Lib.hid z0
  clear hls hd hq0 hq1 hn0 hn1 hr hs hlen hne z0
  go_enter Tryd.func33, Tryd.ntmps33
  go_wp2_with fail
  refine (SP _).mono ?_
  clear SP
  rintro e w1 ⟨v, rfl, tx, hb⟩
  have K1 : Hid (Blk2 w1 w.heap.size 35 (.int .i64 0) (.int .i64 0)) := (Blk2.at_ _ _ _ rfl).keep hb (by simp)
  have B : Hid (Below w.heap.size w w1) := ((Below.refl _ _).alloc (Nat.le_refl _) _).trans (hb.mono (by simp))
  obtain ⟨g, cap, rfl, hg, hcap, hc⟩ := tx.form NE.out
  have HC := Lib.hid hc
  have c0 := HC.out 0 Z0.out
  rw [Q0.out] at c0
  clear tx hb hc hg hcap
  rcases Nat.lt_or_ge 1 ls.length with h1 | h1
  · have c1 := HC.out 1 h1
    rw [Q1.out] at c1
    have dd : d = n1 := by rw [D.out, if_pos h1]
    subst dd
    have h1' : (1 : Int) < ls.length := by omega
    clear h1
    go_wp2_with (go_at_call 58; (first | (with_reducible refine (P0 _).mono ?_) | (with_reducible refine (P1 _).mono ?_)); rintro e w' ⟨rfl, rfl⟩)
    refine (MK _).mono ?_
    rintro e w2 ⟨rfl, hb⟩
    have K2 : Hid (Blk2 w2 w.heap.size 35 (.int .i64 0) (.int .i64 0)) := K1.out.keep hb K1.out.lt
    have B2 : Hid (Below w.heap.size w w2) := Lib.hid (B.out.trans (hb.mono B.out.size))
    have J2 : Hid (Blk2 (w2.alloc (.cells #[.int .i64 0, .int .i64 0] 35)) w2.heap.size 35 (.int .i64 0) (.int .i64 0)) := Lib.hid (Blk2.at_ _ _ _ rfl)
    obtain ⟨-, -, jf0, jf1⟩ := J2.out.all
    have L2 := B2.out.size
    clear hb MK P0 P1 c0 HC
    rcases Bool.eq_false_or_eq_true (isRat r1 r2) with hm | hm
    · rw [hm] at IR
      by_cases ht : ratText r1 r2 = s
      · have R : Hid (parR s = ((r1, r2), true)) := Lib.hid (by rw [PR.out, if_pos ⟨hm, ht⟩])
        rw [ht] at FR
        clear ht hm
        go_wp2_with fail
        refine (IR _).mono ?_
        clear IR
        rintro e w3 ⟨rfl, hb3⟩
        have J3 : Hid (Blk2 w3 w2.heap.size 35 (.int .i64 r1) (.int .i64 r2)) := Lib.hid ((Blk2.at_ _ _ _ rfl).keep hb3 (by simp))
        have K3 : Hid (Blk2 w3 w.heap.size 35 (.int .i64 0) (.int .i64 0)) := Lib.hid ((K2.out.old _).keep hb3 (by have := K2.out.lt; simp; omega))
        have B3 : Hid (Below w.heap.size w w3) := Lib.hid ((B2.out.alloc B2.out.size _).trans (hb3.mono (by have := K2.out.lt; simp; omega)))
        obtain ⟨j30, j31, -, -⟩ := J3.out.all
        clear hb3 jf0 jf1
        go_wp2_with fail
        refine (FR _).mono ?_
        clear FR
        rintro e w4 ⟨rfl, hb4⟩
        have J4 : Hid (Blk2 w4 w2.heap.size 35 (.int .i64 r1) (.int .i64 r2)) := Lib.hid (J3.out.keep hb4 J3.out.lt)
        have K4 : Hid (Blk2 w4 w.heap.size 35 (.int .i64 0) (.int .i64 0)) := Lib.hid (K3.out.keep hb4 K3.out.lt)
        have B4 : Hid (Below w.heap.size w w4) := Lib.hid (B3.out.trans (hb4.mono B3.out.size))
        clear hb4 j30 j31
        obtain ⟨j40, j41, -, -⟩ := J4.out.all
        obtain ⟨k0, k1, kf0, kf1⟩ := K4.out.all
        go_wp2_with fail
        obtain ⟨E0, E1, -, -⟩ := ((K4.out.set0 (.int .i64 r1)).set1 (.int .i64 r2)).all
        exact bodyPost_ret (v := .tuple #[.agg #[.int .i64 r1, .int .i64 r2], .bool true]) (by simp [results, Tryd.results33, go_sem, E0, E1]) rfl ⟨by rw [R.out]; rfl, ((B4.out.setCell (Nat.le_refl _) _).setCell (Nat.le_refl _) _)⟩
      · have R : Hid (parR s = ((0, 0), false)) := Lib.hid (by rw [PR.out, if_neg (fun h => ht h.2)])
        obtain ⟨t, et⟩ : ∃ t, ratText r1 r2 = t := ⟨_, rfl⟩
        rw [et] at FR ht
        have hts : (t == s) = false := beq_eq_false_iff_ne.mpr ht
        clear et hm ht
        go_wp2_with fail
        refine (IR _).mono ?_
        clear IR
        rintro e w3 ⟨rfl, hb3⟩
        have J3 : Hid (Blk2 w3 w2.heap.size 35 (.int .i64 r1) (.int .i64 r2)) := Lib.hid ((Blk2.at_ _ _ _ rfl).keep hb3 (by simp))
        have K3 : Hid (Blk2 w3 w.heap.size 35 (.int .i64 0) (.int .i64 0)) := Lib.hid ((K2.out.old _).keep hb3 (by have := K2.out.lt; simp; omega))
        have B3 : Hid (Below w.heap.size w w3) := Lib.hid ((B2.out.alloc B2.out.size _).trans (hb3.mono (by have := K2.out.lt; simp; omega)))
        obtain ⟨j30, j31, -, -⟩ := J3.out.all
        clear hb3 jf0 jf1
        go_wp2_with fail
        refine (FR _).mono ?_
        clear FR
        rintro e w4 ⟨rfl, hb4⟩
        have J4 : Hid (Blk2 w4 w2.heap.size 35 (.int .i64 r1) (.int .i64 r2)) := Lib.hid (J3.out.keep hb4 J3.out.lt)
        have K4 : Hid (Blk2 w4 w.heap.size 35 (.int .i64 0) (.int .i64 0)) := Lib.hid (K3.out.keep hb4 K3.out.lt)
        have B4 : Hid (Below w.heap.size w w4) := Lib.hid (B3.out.trans (hb4.mono B3.out.size))
        clear hb4 j30 j31
        obtain ⟨j40, j41, -, -⟩ := J4.out.all
        obtain ⟨k0, k1, kf0, kf1⟩ := K4.out.all
        go_wp2_with fail
        obtain ⟨E0, E1, -, -⟩ := ((K4.out.set0 (.int .i64 0)).set1 (.int .i64 0)).all
        exact bodyPost_ret (v := .tuple #[.agg #[.int .i64 0, .int .i64 0], .bool false]) (by simp [results, Tryd.results33, go_sem, E0, E1]) rfl ⟨by rw [R.out]; rfl, ((B4.out.setCell (Nat.le_refl _) _).setCell (Nat.le_refl _) _)⟩
    · have R : Hid (parR s = ((0, 0), false)) := Lib.hid (by rw [PR.out, if_neg (by rw [hm]; simp)])
      rw [hm] at IR
      clear hm FR
      · go_wp2_with fail
        refine (IR _).mono ?_
        clear IR
        rintro e w3 ⟨rfl, hb3⟩
        have J3 : Hid (Blk2 w3 w2.heap.size 35 (.int .i64 r1) (.int .i64 r2)) := Lib.hid ((Blk2.at_ _ _ _ rfl).keep hb3 (by simp))
        have K3 : Hid (Blk2 w3 w.heap.size 35 (.int .i64 0) (.int .i64 0)) := Lib.hid ((K2.out.old _).keep hb3 (by have := K2.out.lt; simp; omega))
        have B3 : Hid (Below w.heap.size w w3) := Lib.hid ((B2.out.alloc B2.out.size _).trans (hb3.mono (by have := K2.out.lt; simp; omega)))
        obtain ⟨j30, j31, -, -⟩ := J3.out.all
        clear hb3 jf0 jf1
        obtain ⟨k0, k1, kf0, kf1⟩ := K3.out.all
        go_wp2_with fail
        obtain ⟨E0, E1, -, -⟩ := ((K3.out.set0 (.int .i64 0)).set1 (.int .i64 0)).all
        exact bodyPost_ret (v := .tuple #[.agg #[.int .i64 0, .int .i64 0], .bool false]) (by simp [results, Tryd.results33, go_sem, E0, E1]) rfl ⟨by rw [R.out]; rfl, ((B3.out.setCell (Nat.le_refl _) _).setCell (Nat.le_refl _) _)⟩

  · have dd : d = 1 := by rw [D.out, if_neg (by omega)]
    subst dd
    have h1' : decide ((1 : Int) < ls.length) = false := decide_eq_false (by omega)
    have h2' : decide (1 < ls.length) = false := decide_eq_false (by omega)
    go_wp2_with (first | (go_at_call 58; with_reducible refine (P0 _).mono ?_; rintro e w' ⟨rfl, rfl⟩))
    refine (MK _).mono ?_
    rintro e w2 ⟨rfl, hb⟩
    have K2 : Hid (Blk2 w2 w.heap.size 35 (.int .i64 0) (.int .i64 0)) := K1.out.keep hb K1.out.lt
    have B2 : Hid (Below w.heap.size w w2) := Lib.hid (B.out.trans (hb.mono B.out.size))
    have J2 : Hid (Blk2 (w2.alloc (.cells #[.int .i64 0, .int .i64 0] 35)) w2.heap.size 35 (.int .i64 0) (.int .i64 0)) := Lib.hid (Blk2.at_ _ _ _ rfl)
    obtain ⟨-, -, jf0, jf1⟩ := J2.out.all
    have L2 := B2.out.size
    clear hb MK P0 P1 c0 HC
    rcases Bool.eq_false_or_eq_true (isRat r1 r2) with hm | hm
    · rw [hm] at IR
      by_cases ht : ratText r1 r2 = s
      · have R : Hid (parR s = ((r1, r2), true)) := Lib.hid (by rw [PR.out, if_pos ⟨hm, ht⟩])
        rw [ht] at FR
        clear ht hm
        go_wp2_with fail
        refine (IR _).mono ?_
        clear IR
        rintro e w3 ⟨rfl, hb3⟩
        have J3 : Hid (Blk2 w3 w2.heap.size 35 (.int .i64 r1) (.int .i64 r2)) := Lib.hid ((Blk2.at_ _ _ _ rfl).keep hb3 (by simp))
        have K3 : Hid (Blk2 w3 w.heap.size 35 (.int .i64 0) (.int .i64 0)) := Lib.hid ((K2.out.old _).keep hb3 (by have := K2.out.lt; simp; omega))
        have B3 : Hid (Below w.heap.size w w3) := Lib.hid ((B2.out.alloc B2.out.size _).trans (hb3.mono (by have := K2.out.lt; simp; omega)))
        obtain ⟨j30, j31, -, -⟩ := J3.out.all
        clear hb3 jf0 jf1
        go_wp2_with fail
        refine (FR _).mono ?_
        clear FR
        rintro e w4 ⟨rfl, hb4⟩
        have J4 : Hid (Blk2 w4 w2.heap.size 35 (.int .i64 r1) (.int .i64 r2)) := Lib.hid (J3.out.keep hb4 J3.out.lt)
        have K4 : Hid (Blk2 w4 w.heap.size 35 (.int .i64 0) (.int .i64 0)) := Lib.hid (K3.out.keep hb4 K3.out.lt)
        have B4 : Hid (Below w.heap.size w w4) := Lib.hid (B3.out.trans (hb4.mono B3.out.size))
        clear hb4 j30 j31
        obtain ⟨j40, j41, -, -⟩ := J4.out.all
        obtain ⟨k0, k1, kf0, kf1⟩ := K4.out.all
        go_wp2_with fail
        obtain ⟨E0, E1, -, -⟩ := ((K4.out.set0 (.int .i64 r1)).set1 (.int .i64 r2)).all
        exact bodyPost_ret (v := .tuple #[.agg #[.int .i64 r1, .int .i64 r2], .bool true]) (by simp [results, Tryd.results33, go_sem, E0, E1]) rfl ⟨by rw [R.out]; rfl, ((B4.out.setCell (Nat.le_refl _) _).setCell (Nat.le_refl _) _)⟩
      · have R : Hid (parR s = ((0, 0), false)) := Lib.hid (by rw [PR.out, if_neg (fun h => ht h.2)])
        obtain ⟨t, et⟩ : ∃ t, ratText r1 r2 = t := ⟨_, rfl⟩
        rw [et] at FR ht
        have hts : (t == s) = false := beq_eq_false_iff_ne.mpr ht
        clear et hm ht
        go_wp2_with fail
        refine (IR _).mono ?_
        clear IR
        rintro e w3 ⟨rfl, hb3⟩
        have J3 : Hid (Blk2 w3 w2.heap.size 35 (.int .i64 r1) (.int .i64 r2)) := Lib.hid ((Blk2.at_ _ _ _ rfl).keep hb3 (by simp))
        have K3 : Hid (Blk2 w3 w.heap.size 35 (.int .i64 0) (.int .i64 0)) := Lib.hid ((K2.out.old _).keep hb3 (by have := K2.out.lt; simp; omega))
        have B3 : Hid (Below w.heap.size w w3) := Lib.hid ((B2.out.alloc B2.out.size _).trans (hb3.mono (by have := K2.out.lt; simp; omega)))
        obtain ⟨j30, j31, -, -⟩ := J3.out.all
        clear hb3 jf0 jf1
        go_wp2_with fail
        refine (FR _).mono ?_
        clear FR
        rintro e w4 ⟨rfl, hb4⟩
        have J4 : Hid (Blk2 w4 w2.heap.size 35 (.int .i64 r1) (.int .i64 r2)) := Lib.hid (J3.out.keep hb4 J3.out.lt)
        have K4 : Hid (Blk2 w4 w.heap.size 35 (.int .i64 0) (.int .i64 0)) := Lib.hid (K3.out.keep hb4 K3.out.lt)
        have B4 : Hid (Below w.heap.size w w4) := Lib.hid (B3.out.trans (hb4.mono B3.out.size))
        clear hb4 j30 j31
        obtain ⟨j40, j41, -, -⟩ := J4.out.all
        obtain ⟨k0, k1, kf0, kf1⟩ := K4.out.all
        go_wp2_with fail
        obtain ⟨E0, E1, -, -⟩ := ((K4.out.set0 (.int .i64 0)).set1 (.int .i64 0)).all
        exact bodyPost_ret (v := .tuple #[.agg #[.int .i64 0, .int .i64 0], .bool false]) (by simp [results, Tryd.results33, go_sem, E0, E1]) rfl ⟨by rw [R.out]; rfl, ((B4.out.setCell (Nat.le_refl _) _).setCell (Nat.le_refl _) _)⟩
    · have R : Hid (parR s = ((0, 0), false)) := Lib.hid (by rw [PR.out, if_neg (by rw [hm]; simp)])
      rw [hm] at IR
      clear hm FR
      · go_wp2_with fail
        refine (IR _).mono ?_
        clear IR
        rintro e w3 ⟨rfl, hb3⟩
        have J3 : Hid (Blk2 w3 w2.heap.size 35 (.int .i64 r1) (.int .i64 r2)) := Lib.hid ((Blk2.at_ _ _ _ rfl).keep hb3 (by simp))
        have K3 : Hid (Blk2 w3 w.heap.size 35 (.int .i64 0) (.int .i64 0)) := Lib.hid ((K2.out.old _).keep hb3 (by have := K2.out.lt; simp; omega))
        have B3 : Hid (Below w.heap.size w w3) := Lib.hid ((B2.out.alloc B2.out.size _).trans (hb3.mono (by have := K2.out.lt; simp; omega)))
        obtain ⟨j30, j31, -, -⟩ := J3.out.all
        clear hb3 jf0 jf1
        obtain ⟨k0, k1, kf0, kf1⟩ := K3.out.all
        go_wp2_with fail
        obtain ⟨E0, E1, -, -⟩ := ((K3.out.set0 (.int .i64 0)).set1 (.int .i64 0)).all
        exact bodyPost_ret (v := .tuple #[.agg #[.int .i64 0, .int .i64 0], .bool false]) (by simp [results, Tryd.results33, go_sem, E0, E1]) rfl ⟨by rw [R.out]; rfl, ((B3.out.setCell (Nat.le_refl _) _).setCell (Nat.le_refl _) _)⟩

end Go.Proofs.YtihgcccdahmmmaaDoor
