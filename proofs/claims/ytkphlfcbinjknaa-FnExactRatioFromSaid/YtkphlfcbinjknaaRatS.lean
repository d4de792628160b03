/-
  Chapter 2, in the model: IsRatio, the lowest terms, MakeRatio.
-/
import Derived.Test.YtkphlfcbinjknaaNumGcdS
import Derived.Test.YtkphlfcbinjknaaNumAbs
import Derived.Test.YtkphlfcbinjknaaRatMath
import Derived.Test.YtkphlfcbinjknaaBlk
import Derived.RegionTactic
import Derived.ChangeAlike
namespace Go.Proofs.Ytkphlfcbinjknaa
open Go.RowKit

/-- A ratio as a value. -/
def ratV (r : Int × Int) : Value := .agg #[.int .i64 r.1, .int .i64 r.2]

theorem sIsRat (n d : Int) (w : World) : Calls Try.prog 25 #[.agg #[.int .i64 n, .int .i64 d]] w (Gives (.bool (isRat n d)) w) := by
  by_cases h12 : 1 ≤ d ∧ d ≤ 400000000
  · obtain ⟨h1, h2⟩ := h12
    by_cases h3 : -400000000 ≤ n ∧ n ≤ 400000000
    · have E : Hid (isRat n d = (((Int.gcd n d : Nat) : Int) == 1)) := by
        show isRat n d = _
        unfold isRat IsRatP
        by_cases hg : Int.gcd n d = 1
        · simp [h1, h2, h3, hg]
        · have : (((Int.gcd n d : Nat) : Int) == 1) = false := by simp; omega
          simp [hg, this]
      obtain ⟨h3, h4⟩ := h3
      go_enter Try.func25, Try.ntmps25
      go_wp2_with (first | (go_at_call 26; refine (sIn_t _ _ _ _ (by omega) (by omega)).mono ?_; rintro e w' ⟨rfl, rfl⟩) | (go_at_call 33; refine (sIsNum_t _ _ (by omega) (by omega)).mono ?_; rintro e w' ⟨rfl, rfl⟩) | (go_at_call 27; refine (sGcd _ _ _ (by omega) (by omega)).mono ?_; rintro e w' ⟨rfl, k, rfl⟩))
      go_ret
      refine ⟨by rw [E.out]; rfl, ?_⟩
      exact below_drewN ((Below.refl _ _).alloc (Nat.le_refl _) _) _
    · have E : Hid (isRat n d = false) := by
        show isRat n d = _
        unfold isRat IsRatP
        exact decide_eq_false (fun k => h3 ⟨k.2.2.1, k.2.2.2.1⟩)
      have h3' : n < -400000000 ∨ 400000000 < n := by omega
      clear h3
      go_enter Try.func25, Try.ntmps25
      go_wp2_with (first | (go_at_call 26; refine (sIn_t _ _ _ _ (by omega) (by omega)).mono ?_; rintro e w' ⟨rfl, rfl⟩) | (go_at_call 33; refine (sIsNum_f _ _ h3').mono ?_; rintro e w' ⟨rfl, rfl⟩))
      go_ret
      exact ⟨by rw [E.out]; rfl, (Below.refl _ _).alloc (Nat.le_refl _) _⟩
  · have E : Hid (isRat n d = false) := by
      show isRat n d = _
      unfold isRat IsRatP
      exact decide_eq_false (fun k => h12 ⟨k.1, k.2.1⟩)
    have h' : d < 1 ∨ 400000000 < d := by omega
    clear h12
    go_enter Try.func25, Try.ntmps25
    go_wp2_with (go_at_call 26; refine (sIn_f _ _ _ _ h').mono ?_; rintro e w' ⟨rfl, rfl⟩)
    go_ret
    exact ⟨by rw [E.out]; rfl, (Below.refl _ _).alloc (Nat.le_refl _) _⟩

/-- The model's test at parts that are cancelled. -/
theorem sMake_pos (n d : Int) (w : World) (hn : -2000000000000000000 ≤ n ∧ n ≤ 2000000000000000000) (hd : 0 < d ∧ d ≤ 2000000000000000000) :
    Calls Try.prog 42 #[.int .i64 n, .int .i64 d] w (Gives (ratV (low n d)) w) := by
  obtain ⟨n1, n2⟩ := hn
  obtain ⟨d1, d2⟩ := hd
  have hz : (d == 0) = false := by simp; omega
  have hs : decide (d < 0) = false := by simp; omega
  go_enter Try.func42, Try.ntmps42
  go_wp2_with fail
  go_loopw [5, 6] (fun x y wr => ∃ p q : Int, x = .int .i64 p ∧ y = .int .i64 q ∧ -2000000000000000000 ≤ p ∧ p ≤ 2000000000000000000 ∧ -2000000000000000000 ≤ q ∧ q ≤ 2000000000000000000 ∧ Int.gcd p q = Int.gcd n d ∧ ∃ m, wr = (w.alloc (.cells #[.int .i64 0, .int .i64 0] 25)).drewN m) (fun _ y _ => (intOf y).natAbs)
  case atStart => exact ⟨n, d, rfl, rfl, n1, n2, by omega, d2, rfl, 0, rfl⟩
  case round =>
    obtain ⟨p, q, rfl, rfl, p1, p2, q1, q2, hg, m, rfl⟩ := hrel
    have HG := Lib.hid hg
    clear hg
    by_cases hq : q = 0
    · subst hq
      have hp := HG.out
      rw [Int.gcd_zero_right] at hp
      obtain ⟨G, hG, hG0⟩ : ∃ G : Nat, Int.gcd n d = G ∧ 0 < G := ⟨_, rfl, gcd_pos_of n d (by omega)⟩
      rw [hG] at hp
      have hg0 : ((G : Int) == 0) = false := by simp; omega
      obtain ⟨bn1, bn2⟩ := tdiv_bdw n G (by omega) (by omega)
      obtain ⟨bd1, bd2⟩ := tdiv_bdw d G (by omega) (by omega)
      have LN : Hid (lowN n d = n.tdiv G) := by show lowN n d = _; unfold lowN; rw [if_neg (by omega), hG]
      have LD : Hid (lowD n d = d.tdiv G) := by show lowD n d = _; unfold lowD; rw [if_neg (by omega), hG]
      clear hG HG
      go_wp2_with fail
      refine (sAbs p _ (by omega) (by omega)).mono ?_
      rintro e w' ⟨rfl, rfl⟩
      rw [hp]
      clear hp
      go_wp2_with fail
      go_region
      go_wp2_with fail
      refine (sIsRat _ _ _).mono ?_
      rintro e w1 ⟨rfl, hb⟩
      have K0 : Hid (Blk2 w1 w.heap.size 25 (.int .i64 0) (.int .i64 0)) := (((Blk2.at_ _ _ _ rfl).drewN _).old _).keep hb (by simp; omega)
      have K1 : Blk2 w1 (w.heap.size + 1) 25 (.int .i64 (n.tdiv G)) (.int .i64 (d.tdiv G)) := (Blk2.at_ _ _ _ (by simp)).keep hb (by simp)
      obtain ⟨C0, C1, F0, F1⟩ := K0.out.all
      obtain ⟨D0, D1, -, -⟩ := K1.all
      have B : Hid (Below w.heap.size w w1) := ((below_drewN ((Below.refl _ _).alloc (Nat.le_refl _) _) _).alloc (by simp) _).trans (hb.mono (by simp; omega))
      have R := isRat_of_fits (n := n) (d := d) (by omega)
      rw [LN.out, LD.out] at R
      rw [R]
      clear K1 hb R
      by_cases hf : Fits (n.tdiv G) (d.tdiv G)
      · have L : Hid (low n d = (n.tdiv G, d.tdiv G)) := by
          have := (low_fits (n := n) (d := d) (by omega) (by rw [LN.out, LD.out]; exact hf)).1
          rw [LN.out, LD.out] at this; exact this
        rw [decide_eq_true hf]
        clear hf
        go_wp2_with fail
        obtain ⟨E0, E1, -, -⟩ := ((K0.out.set0 (.int .i64 (n.tdiv G))).set1 (.int .i64 (d.tdiv G))).all
        refine bodyPost_ret (v := ratV (n.tdiv G, d.tdiv G)) (by simp [results, Try.results42, go_sem, E0, E1, ratV]) rfl ⟨by rw [L.out], ?_⟩
        exact (B.out.setCell (Nat.le_refl _) _).setCell (Nat.le_refl _) _
      · have L : Hid (low n d = (0, 0)) := low_none (by rw [LN.out, LD.out]; exact hf)
        rw [decide_eq_false hf]
        clear hf
        go_wp2_with fail
        obtain ⟨E0, E1, -, -⟩ := ((K0.out.set0 (.int .i64 0)).set1 (.int .i64 0)).all
        refine bodyPost_ret (v := ratV (0, 0)) (by simp [results, Try.results42, go_sem, E0, E1, ratV]) rfl ⟨by rw [L.out], ?_⟩
        exact (B.out.setCell (Nat.le_refl _) _).setCell (Nat.le_refl _) _
    · have t1 := tmod_small p q hq
      have t2 := gcd_round p q
      have b1 : -2000000000000000000 ≤ p.tmod q := by omega
      have b2 : p.tmod q ≤ 2000000000000000000 := by omega
      have T1 := Lib.hid t1
      have T2 := Lib.hid t2
      clear t1 t2
      have hq' : (q == 0) = false := by simpa using hq
      go_wp2
      go_quiet (fail)
      go_wp2
      go_roundw
      case rel => exact ⟨q, p.tmod q, rfl, rfl, q1, q2, b1, b2, T2.out.trans HG.out, _, by rw [World.drewN_drewN]⟩
      case measure => simpa [intOf] using T1.out
theorem sMake_neg (n d : Int) (w : World) (hn : -2000000000000000000 ≤ n ∧ n ≤ 2000000000000000000) (hd : 0 < d ∧ d ≤ 2000000000000000000) :
    Calls Try.prog 42 #[.int .i64 (-n), .int .i64 (-d)] w (Gives (ratV (low n d)) w) := by
  obtain ⟨n1, n2⟩ := hn
  obtain ⟨d1, d2⟩ := hd
  have hz : (-d == 0) = false := by simp; omega
  have hs : decide (-d < 0) = true := by simp; omega
  go_enter Try.func42, Try.ntmps42
  go_wp2_with fail
  go_loopw [5, 6] (fun x y wr => ∃ p q : Int, x = .int .i64 p ∧ y = .int .i64 q ∧ -2000000000000000000 ≤ p ∧ p ≤ 2000000000000000000 ∧ -2000000000000000000 ≤ q ∧ q ≤ 2000000000000000000 ∧ Int.gcd p q = Int.gcd n d ∧ ∃ m, wr = (w.alloc (.cells #[.int .i64 0, .int .i64 0] 25)).drewN m) (fun _ y _ => (intOf y).natAbs)
  case atStart => exact ⟨n, d, rfl, rfl, n1, n2, by omega, d2, rfl, 0, rfl⟩
  case round =>
    obtain ⟨p, q, rfl, rfl, p1, p2, q1, q2, hg, m, rfl⟩ := hrel
    have HG := Lib.hid hg
    clear hg
    by_cases hq : q = 0
    · subst hq
      have hp := HG.out
      rw [Int.gcd_zero_right] at hp
      obtain ⟨G, hG, hG0⟩ : ∃ G : Nat, Int.gcd n d = G ∧ 0 < G := ⟨_, rfl, gcd_pos_of n d (by omega)⟩
      rw [hG] at hp
      have hg0 : ((G : Int) == 0) = false := by simp; omega
      obtain ⟨bn1, bn2⟩ := tdiv_bdw n G (by omega) (by omega)
      obtain ⟨bd1, bd2⟩ := tdiv_bdw d G (by omega) (by omega)
      have LN : Hid (lowN n d = n.tdiv G) := by show lowN n d = _; unfold lowN; rw [if_neg (by omega), hG]
      have LD : Hid (lowD n d = d.tdiv G) := by show lowD n d = _; unfold lowD; rw [if_neg (by omega), hG]
      clear hG HG
      go_wp2_with fail
      refine (sAbs p _ (by omega) (by omega)).mono ?_
      rintro e w' ⟨rfl, rfl⟩
      rw [hp]
      clear hp
      go_wp2_with fail
      go_region
      go_wp2_with fail
      refine (sIsRat _ _ _).mono ?_
      rintro e w1 ⟨rfl, hb⟩
      have K0 : Hid (Blk2 w1 w.heap.size 25 (.int .i64 0) (.int .i64 0)) := (((Blk2.at_ _ _ _ rfl).drewN _).old _).keep hb (by simp; omega)
      have K1 : Blk2 w1 (w.heap.size + 1) 25 (.int .i64 (n.tdiv G)) (.int .i64 (d.tdiv G)) := (Blk2.at_ _ _ _ (by simp)).keep hb (by simp)
      obtain ⟨C0, C1, F0, F1⟩ := K0.out.all
      obtain ⟨D0, D1, -, -⟩ := K1.all
      have B : Hid (Below w.heap.size w w1) := ((below_drewN ((Below.refl _ _).alloc (Nat.le_refl _) _) _).alloc (by simp) _).trans (hb.mono (by simp; omega))
      have R := isRat_of_fits (n := n) (d := d) (by omega)
      rw [LN.out, LD.out] at R
      rw [R]
      clear K1 hb R
      by_cases hf : Fits (n.tdiv G) (d.tdiv G)
      · have L : Hid (low n d = (n.tdiv G, d.tdiv G)) := by
          have := (low_fits (n := n) (d := d) (by omega) (by rw [LN.out, LD.out]; exact hf)).1
          rw [LN.out, LD.out] at this; exact this
        rw [decide_eq_true hf]
        clear hf
        go_wp2_with fail
        obtain ⟨E0, E1, -, -⟩ := ((K0.out.set0 (.int .i64 (n.tdiv G))).set1 (.int .i64 (d.tdiv G))).all
        refine bodyPost_ret (v := ratV (n.tdiv G, d.tdiv G)) (by simp [results, Try.results42, go_sem, E0, E1, ratV]) rfl ⟨by rw [L.out], ?_⟩
        exact (B.out.setCell (Nat.le_refl _) _).setCell (Nat.le_refl _) _
      · have L : Hid (low n d = (0, 0)) := low_none (by rw [LN.out, LD.out]; exact hf)
        rw [decide_eq_false hf]
        clear hf
        go_wp2_with fail
        obtain ⟨E0, E1, -, -⟩ := ((K0.out.set0 (.int .i64 0)).set1 (.int .i64 0)).all
        refine bodyPost_ret (v := ratV (0, 0)) (by simp [results, Try.results42, go_sem, E0, E1, ratV]) rfl ⟨by rw [L.out], ?_⟩
        exact (B.out.setCell (Nat.le_refl _) _).setCell (Nat.le_refl _) _
    · have t1 := tmod_small p q hq
      have t2 := gcd_round p q
      have b1 : -2000000000000000000 ≤ p.tmod q := by omega
      have b2 : p.tmod q ≤ 2000000000000000000 := by omega
      have T1 := Lib.hid t1
      have T2 := Lib.hid t2
      clear t1 t2
      have hq' : (q == 0) = false := by simpa using hq
      go_wp2
      go_quiet (fail)
      go_wp2
      go_roundw
      case rel => exact ⟨q, p.tmod q, rfl, rfl, q1, q2, b1, b2, T2.out.trans HG.out, _, by rw [World.drewN_drewN]⟩
      case measure => simpa [intOf] using T1.out

theorem low_neg (n d : Int) (hd : 0 < d) : low (-n) (-d) = low n d := by
  have e1 : lowN (-n) (-d) = lowN n d := by
    unfold lowN; rw [if_pos (by omega), if_neg (by omega), Int.neg_gcd, Int.gcd_neg, Int.neg_tdiv, Int.neg_neg]
  have e2 : lowD (-n) (-d) = lowD n d := by
    unfold lowD; rw [if_pos (by omega), if_neg (by omega), Int.neg_gcd, Int.gcd_neg, Int.neg_tdiv, Int.neg_neg]
  unfold low
  rw [e1, e2, if_neg (show ¬ (-d = 0) by omega), if_neg (show ¬ (d = 0) by omega)]
theorem sMake (n d : Int) (w : World) (hn : -2000000000000000000 ≤ n ∧ n ≤ 2000000000000000000) (hd : -2000000000000000000 ≤ d ∧ d ≤ 2000000000000000000) :
    Calls Try.prog 42 #[.int .i64 n, .int .i64 d] w (Gives (ratV (low n d)) w) := by
  rcases Int.lt_trichotomy d 0 with h | h | h
  · obtain ⟨m, rfl⟩ : ∃ m, n = -m := ⟨-n, by omega⟩
    obtain ⟨e, rfl⟩ : ∃ e, d = -e := ⟨-d, by omega⟩
    rw [low_neg m e (by omega)]
    exact sMake_neg m e w (by omega) (by omega)
  · subst h
    go_enter Try.func42, Try.ntmps42
    go_wp2_with fail
    refine bodyPost_ret (v := ratV (0, 0)) (by simp [results, Try.results42, go_sem, ratV]) rfl ⟨by rw [low_zero], ?_⟩
    exact (Below.refl _ _).alloc (Nat.le_refl _) _
  · exact sMake_pos n d w hn (by omega)

theorem sMk (n d : Int) (w : World) : Calls Try.prog 37 #[.int .i64 n, .int .i64 d] w (Gives (ratV (mkRat n d)) w) := by
  by_cases hn : -400000000 ≤ n ∧ n ≤ 400000000
  · by_cases hd : -400000000 ≤ d ∧ d ≤ 400000000
    · rw [mkRat_in ⟨hn, hd⟩]
      go_enter Try.func37, Try.ntmps37
      go_wp2_with fail
      refine (sIsNum_t _ _ hn.1 hn.2).mono ?_
      rintro e w' ⟨rfl, rfl⟩
      go_wp2_with fail
      refine (sIsNum_t _ _ hd.1 hd.2).mono ?_
      rintro e w' ⟨rfl, rfl⟩
      go_wp2_with fail
      refine (sMake n d _ (by omega) (by omega)).mono ?_
      rintro e w1 ⟨rfl, hb⟩
      have K0 : Hid (Blk2 w1 w.heap.size 25 (.int .i64 0) (.int .i64 0)) := (Blk2.at_ _ _ _ rfl).keep hb (by simp)
      obtain ⟨C0, C1, F0, F1⟩ := K0.out.all
      have B : Hid (Below w.heap.size w w1) := ((Below.refl _ _).alloc (Nat.le_refl _) _).trans (hb.mono (by simp))
      clear hb
      unfold ratV
      go_wp2_with fail
      obtain ⟨E0, E1, -, -⟩ := ((K0.out.set0 (.int .i64 (low n d).1)).set1 (.int .i64 (low n d).2)).all
      refine bodyPost_ret (v := ratV (low n d)) (by simp [results, Try.results37, go_sem, E0, E1, ratV]) rfl ⟨rfl, ?_⟩
      exact (B.out.setCell (Nat.le_refl _) _).setCell (Nat.le_refl _) _
    · rw [mkRat_out (fun k => hd k.2)]
      have hd' : d < -400000000 ∨ 400000000 < d := by omega
      clear hd
      go_enter Try.func37, Try.ntmps37
      go_wp2_with fail
      refine (sIsNum_t _ _ hn.1 hn.2).mono ?_
      rintro e w' ⟨rfl, rfl⟩
      go_wp2_with fail
      refine (sIsNum_f _ _ hd').mono ?_
      rintro e w' ⟨rfl, rfl⟩
      go_wp2_with fail
      refine bodyPost_ret (v := ratV (0, 0)) (by simp [results, Try.results37, go_sem, ratV]) rfl ⟨rfl, ?_⟩
      exact (Below.refl _ _).alloc (Nat.le_refl _) _
  · rw [mkRat_out (fun k => hn k.1)]
    have hn' : n < -400000000 ∨ 400000000 < n := by omega
    clear hn
    go_enter Try.func37, Try.ntmps37
    go_wp2_with fail
    refine (sIsNum_f _ _ hn').mono ?_
    rintro e w' ⟨rfl, rfl⟩
    go_wp2_with fail
    refine bodyPost_ret (v := ratV (0, 0)) (by simp [results, Try.results37, go_sem, ratV]) rfl ⟨rfl, ?_⟩
    exact (Below.refl _ _).alloc (Nat.le_refl _) _
end Go.Proofs.Ytkphlfcbinjknaa
