/-
  Chapter 10, in the model: RatioFrom.
-/
import Derived.Test.YtkphlfcbinjknaaReS
namespace Go.Proofs.Ytkphlfcbinjknaa
set_option maxRecDepth 100000
open Go.RowKit

set_option maxHeartbeats 2000000 in
theorem sRatio (a m b : Int) (w : World) : Calls Try.prog 16 #[.int .i64 a, .int .i64 m, .int .i64 b] w (Gives (.tuple #[.agg #[.int .i64 (rtX a m b).1, .int .i64 (rtX a m b).2.1], .bool (rtX a m b).2.2]) w) := by
  by_cases ha : NumP a
  rotate_left
  · have V : Hid (rtX a m b = (0, 0, false)) := rtX_no fun h => ha h.1
    have ha' : a < -400000000 ∨ 400000000 < a := by unfold NumP at ha; omega
    clear ha
    go_enter Try.func16, Try.ntmps16
    go_wp2_with fail
    have K0 : Hid (Blk2 (w.alloc (.cells #[.int .i64 0, .int .i64 0] 25)) w.heap.size 25 (.int .i64 0) (.int .i64 0)) := Blk2.at_ _ _ _ rfl
    have B0 : Hid (Below w.heap.size w (w.alloc (.cells #[.int .i64 0, .int .i64 0] 25))) := (Below.refl _ _).alloc (Nat.le_refl _) _
    generalize w.alloc (.cells #[.int .i64 0, .int .i64 0] 25) = W at K0 B0 ⊢
    obtain ⟨K0a, K0b, K0c, K0d⟩ := K0.out.all
    refine (sIsNum_f a _ ha').mono ?_
    rintro e w' ⟨rfl, rfl⟩
    go_wp2_with fail
    obtain ⟨E0, E1, -, -⟩ := ((K0.out.set0 (.int .i64 0)).set1 (.int .i64 0)).all
    refine bodyPost_ret (v := .tuple #[.agg #[.int .i64 0, .int .i64 0], .bool false]) (by simp [results, Try.results16, go_sem, E0, E1]) rfl ⟨by rw [V.out], ?_⟩
    exact (B0.out.setCell (Nat.le_refl _) _).setCell (Nat.le_refl _) _
  by_cases hm : 1 ≤ m ∧ m ≤ 400000000
  rotate_left
  · have V : Hid (rtX a m b = (0, 0, false)) := rtX_no fun h => hm h.2.1
    have hm' : m < 1 ∨ 400000000 < m := by omega
    clear hm
    go_enter Try.func16, Try.ntmps16
    go_wp2_with fail
    have K0 : Hid (Blk2 (w.alloc (.cells #[.int .i64 0, .int .i64 0] 25)) w.heap.size 25 (.int .i64 0) (.int .i64 0)) := Blk2.at_ _ _ _ rfl
    have B0 : Hid (Below w.heap.size w (w.alloc (.cells #[.int .i64 0, .int .i64 0] 25))) := (Below.refl _ _).alloc (Nat.le_refl _) _
    generalize w.alloc (.cells #[.int .i64 0, .int .i64 0] 25) = W at K0 B0 ⊢
    obtain ⟨K0a, K0b, K0c, K0d⟩ := K0.out.all
    refine (sIsNum_t a _ ha.1 ha.2).mono ?_
    rintro e w' ⟨rfl, rfl⟩
    go_wp2_with fail
    refine (sIn_f m 1 400000000 _ hm').mono ?_
    rintro e w' ⟨rfl, rfl⟩
    go_wp2_with fail
    obtain ⟨E0, E1, -, -⟩ := ((K0.out.set0 (.int .i64 0)).set1 (.int .i64 0)).all
    refine bodyPost_ret (v := .tuple #[.agg #[.int .i64 0, .int .i64 0], .bool false]) (by simp [results, Try.results16, go_sem, E0, E1]) rfl ⟨by rw [V.out], ?_⟩
    exact (B0.out.setCell (Nat.le_refl _) _).setCell (Nat.le_refl _) _
  by_cases hb : 1 ≤ b ∧ b ≤ 20000
  rotate_left
  · have V : Hid (rtX a m b = (0, 0, false)) := rtX_no fun h => hb h.2.2.1
    have hb' : b < 1 ∨ 20000 < b := by omega
    clear hb
    go_enter Try.func16, Try.ntmps16
    go_wp2_with fail
    have K0 : Hid (Blk2 (w.alloc (.cells #[.int .i64 0, .int .i64 0] 25)) w.heap.size 25 (.int .i64 0) (.int .i64 0)) := Blk2.at_ _ _ _ rfl
    have B0 : Hid (Below w.heap.size w (w.alloc (.cells #[.int .i64 0, .int .i64 0] 25))) := (Below.refl _ _).alloc (Nat.le_refl _) _
    generalize w.alloc (.cells #[.int .i64 0, .int .i64 0] 25) = W at K0 B0 ⊢
    obtain ⟨K0a, K0b, K0c, K0d⟩ := K0.out.all
    refine (sIsNum_t a _ ha.1 ha.2).mono ?_
    rintro e w' ⟨rfl, rfl⟩
    go_wp2_with fail
    refine (sIn_t m 1 400000000 _ hm.1 hm.2).mono ?_
    rintro e w' ⟨rfl, rfl⟩
    go_wp2_with fail
    refine (sIn_f b 1 20000 _ hb').mono ?_
    rintro e w' ⟨rfl, rfl⟩
    go_wp2_with fail
    obtain ⟨E0, E1, -, -⟩ := ((K0.out.set0 (.int .i64 0)).set1 (.int .i64 0)).all
    refine bodyPost_ret (v := .tuple #[.agg #[.int .i64 0, .int .i64 0], .bool false]) (by simp [results, Try.results16, go_sem, E0, E1]) rfl ⟨by rw [V.out], ?_⟩
    exact (B0.out.setCell (Nat.le_refl _) _).setCell (Nat.le_refl _) _
  have sq0 : 0 ≤ 2 * b * b ∧ 2 * b * b ≤ 800000000 := by
    have h1 := Int.mul_nonneg (show 0 ≤ 2 * b by omega) (show 0 ≤ b by omega)
    have h2 : 2 * b * b ≤ 40000 * 20000 := Int.mul_le_mul (by omega) hb.2 (by omega) (by decide)
    omega
  by_cases hq : 2 * b * b < m
  rotate_left
  · have V : Hid (rtX a m b = (0, 0, false)) := rtX_no fun h => hq h.2.2.2
    have hq' : m ≤ 2 * b * b := by omega
    clear hq
    go_enter Try.func16, Try.ntmps16
    go_wp2_with fail
    have K0 : Hid (Blk2 (w.alloc (.cells #[.int .i64 0, .int .i64 0] 25)) w.heap.size 25 (.int .i64 0) (.int .i64 0)) := Blk2.at_ _ _ _ rfl
    have B0 : Hid (Below w.heap.size w (w.alloc (.cells #[.int .i64 0, .int .i64 0] 25))) := (Below.refl _ _).alloc (Nat.le_refl _) _
    generalize w.alloc (.cells #[.int .i64 0, .int .i64 0] 25) = W at K0 B0 ⊢
    obtain ⟨K0a, K0b, K0c, K0d⟩ := K0.out.all
    refine (sIsNum_t a _ ha.1 ha.2).mono ?_
    rintro e w' ⟨rfl, rfl⟩
    go_wp2_with fail
    refine (sIn_t m 1 400000000 _ hm.1 hm.2).mono ?_
    rintro e w' ⟨rfl, rfl⟩
    go_wp2_with fail
    refine (sIn_t b 1 20000 _ hb.1 hb.2).mono ?_
    rintro e w' ⟨rfl, rfl⟩
    go_wp2_with fail
    obtain ⟨E0, E1, -, -⟩ := ((K0.out.set0 (.int .i64 0)).set1 (.int .i64 0)).all
    refine bodyPost_ret (v := .tuple #[.agg #[.int .i64 0, .int .i64 0], .bool false]) (by simp [results, Try.results16, go_sem, E0, E1]) rfl ⟨by rw [V.out], ?_⟩
    exact (B0.out.setCell (Nat.le_refl _) _).setCell (Nat.le_refl _) _
  have A : Hid (RtA a m b) := ⟨ha, hm, hb, hq⟩
  obtain ⟨I0, gb0⟩ := A.out.start
  have I0 := Lib.hid I0
  have n1 : (m == 0) = false := by simp; omega
  go_enter Try.func16, Try.ntmps16
  go_wp2_with fail
  have K0 : Hid (Blk2 (w.alloc (.cells #[.int .i64 0, .int .i64 0] 25)) w.heap.size 25 (.int .i64 0) (.int .i64 0)) := Blk2.at_ _ _ _ rfl
  have B0 : Hid (Below w.heap.size w (w.alloc (.cells #[.int .i64 0, .int .i64 0] 25))) := (Below.refl _ _).alloc (Nat.le_refl _) _
  generalize w.alloc (.cells #[.int .i64 0, .int .i64 0] 25) = W at K0 B0 ⊢
  obtain ⟨K0a, K0b, K0c, K0d⟩ := K0.out.all
  refine (sIsNum_t a _ ha.1 ha.2).mono ?_
  rintro e w' ⟨rfl, rfl⟩
  go_wp2_with fail
  refine (sIn_t m 1 400000000 _ hm.1 hm.2).mono ?_
  rintro e w' ⟨rfl, rfl⟩
  go_wp2_with fail
  refine (sIn_t b 1 20000 _ hb.1 hb.2).mono ?_
  rintro e w' ⟨rfl, rfl⟩
  go_wp2_with fail
  refine (sMod a m _ (by omega) (by omega)).mono ?_
  rintro e w' ⟨rfl, rfl⟩
  go_wp2_with fail
  go_loopw [8, 9, 10, 11] (fun sg sx sh su wr => ∃ g x h u : Int, sg = .int .i64 g ∧ sx = .int .i64 x ∧ sh = .int .i64 h ∧ su = .int .i64 u ∧ RInv m a g x h u ∧ b < g ∧ g ≤ 400000000 ∧ wr = W) (fun _ _ sh _ _ => (intOf sh).natAbs)
  case atStart => exact ⟨m, 0, a % m, 1, rfl, rfl, rfl, rfl, I0.out, gb0, hm.2, by first | rfl | trivial⟩
  case round =>
    obtain ⟨g, x, h, u, rfl, rfl, rfl, rfl, hI, gb, g4, rfl⟩ := hrel
    have I := Lib.hid hI
    have h0 := hI.low
    have h1 := hI.less
    have u1 := hI.small.1
    clear hI
    by_cases hh : b < h
    · have x1 := I.out.small.2 (by omega)
      obtain ⟨⟨p1, p2⟩, ⟨p3, p4⟩, p5, p6⟩ := I.out.parts (by omega)
      have J := Lib.hid (I.out.step (by omega))
      have d0 : Int.tdiv g h = g / h := Int.tdiv_eq_ediv_of_nonneg (by omega)
      have v1 := J.out.small.1
      have l1 := J.out.less
      have l0 := J.out.low
      obtain ⟨q, hq2⟩ : ∃ q, g / h = q := ⟨_, rfl⟩
      rw [hq2] at p1 p2 p3 p4 p5 p6 d0 v1 l1 l0 J
      have n2 : (h == 0) = false := by simp; omega
      clear hq2
      go_wp2_with fail
      go_roundw
      case rel => exact ⟨h, u, g - q * h, x - q * u, rfl, rfl, rfl, rfl, J.out, hh, by omega, by first | rfl | trivial⟩
      case measure => simp [intOf]; omega
    · by_cases hu : u < 0
      · obtain ⟨s, hs⟩ : ∃ s, -h = s := ⟨_, rfl⟩
        obtain ⟨t, ht⟩ : ∃ t, -u = t := ⟨_, rfl⟩
        have hs1 : -400000000 ≤ s ∧ s ≤ 400000000 := by omega
        have ht1 : -400000000 ≤ t ∧ t ≤ 400000000 := by omega
        have HS := Lib.hid ((if_pos hu : (if u < 0 then -h else h) = -h).trans hs)
        have HT := Lib.hid ((if_pos hu : (if u < 0 then -u else u) = -u).trans ht)
        have AY : Hid (t ≤ b → imB s t a m = true → rtX a m b = (s, t, true)) := fun h1 h2 => I.out.ans_yes A.out (by omega) gb HS.out HT.out h1 h2
        have AN : Hid (b < t ∨ imB s t a m = false → rtX a m b = (0, 0, false)) := fun h1 => I.out.ans_no A.out (by omega) gb HS.out HT.out h1
        have K1 : Hid (Blk2 (wr.alloc (.cells #[.int .i64 s, .int .i64 t] 25)) w.heap.size 25 (.int .i64 0) (.int .i64 0)) := K0.out.old _
        have K3 : Hid (Blk2 (wr.alloc (.cells #[.int .i64 s, .int .i64 t] 25)) wr.heap.size 25 (.int .i64 s) (.int .i64 t)) := Blk2.at_ _ _ _ rfl
        have B1 : Hid (Below w.heap.size w (wr.alloc (.cells #[.int .i64 s, .int .i64 t] 25))) := B0.out.alloc B0.out.size _
        obtain ⟨K1a, K1b, K1c, K1d⟩ := K1.out.all
        obtain ⟨K3a, K3b, K3c, K3d⟩ := K3.out.all
        by_cases htb : b < t
        · have V := Lib.hid (AN.out (.inl htb))
          go_wp2_with fail
          obtain ⟨E0, E1, -, -⟩ := ((K1.out.set0 (.int .i64 0)).set1 (.int .i64 0)).all
          refine bodyPost_ret (v := .tuple #[.agg #[.int .i64 0, .int .i64 0], .bool false]) (by simp [results, Try.results16, go_sem, E0, E1]) rfl ⟨by rw [V.out], ?_⟩
          exact (B1.out.setCell (Nat.le_refl _) _).setCell (Nat.le_refl _) _
        · go_wp2_with fail
          refine (sImage s t a m _).mono ?_
          rintro e w2 ⟨rfl, hb2⟩
          have K2 := Lib.hid (K1.out.keep hb2 K1.out.lt)
          have K4 := Lib.hid (K3.out.keep hb2 K3.out.lt)
          have B2 := Lib.hid (B1.out.trans (hb2.mono B1.out.size))
          obtain ⟨K2a, K2b, K2c, K2d⟩ := K2.out.all
          obtain ⟨K4a, K4b, K4c, K4d⟩ := K4.out.all
          clear hb2
          generalize imB s t a m = ib at AY AN ⊢
          cases ib with
          | false =>
            have V := Lib.hid (AN.out (.inr rfl))
            go_wp2_with fail
            obtain ⟨E0, E1, -, -⟩ := ((K2.out.set0 (.int .i64 0)).set1 (.int .i64 0)).all
            refine bodyPost_ret (v := .tuple #[.agg #[.int .i64 0, .int .i64 0], .bool false]) (by simp [results, Try.results16, go_sem, E0, E1]) rfl ⟨by rw [V.out], ?_⟩
            exact (B2.out.setCell (Nat.le_refl _) _).setCell (Nat.le_refl _) _
          | true =>
            have V := Lib.hid (AY.out (by omega) rfl)
            go_wp2_with fail
            obtain ⟨E0, E1, -, -⟩ := ((K2.out.set0 (.int .i64 s)).set1 (.int .i64 t)).all
            refine bodyPost_ret (v := .tuple #[.agg #[.int .i64 s, .int .i64 t], .bool true]) (by simp [results, Try.results16, go_sem, E0, E1]) rfl ⟨by rw [V.out], ?_⟩
            exact (B2.out.setCell (Nat.le_refl _) _).setCell (Nat.le_refl _) _
      · have HS : Hid ((if u < 0 then -h else h) = h) := if_neg hu
        have HT : Hid ((if u < 0 then -u else u) = u) := if_neg hu
        have AY : Hid (u ≤ b → imB h u a m = true → rtX a m b = (h, u, true)) := fun h1 h2 => I.out.ans_yes A.out (by omega) gb HS.out HT.out h1 h2
        have AN : Hid (b < u ∨ imB h u a m = false → rtX a m b = (0, 0, false)) := fun h1 => I.out.ans_no A.out (by omega) gb HS.out HT.out h1
        have K1 : Hid (Blk2 (wr.alloc (.cells #[.int .i64 h, .int .i64 u] 25)) w.heap.size 25 (.int .i64 0) (.int .i64 0)) := K0.out.old _
        have K3 : Hid (Blk2 (wr.alloc (.cells #[.int .i64 h, .int .i64 u] 25)) wr.heap.size 25 (.int .i64 h) (.int .i64 u)) := Blk2.at_ _ _ _ rfl
        have B1 : Hid (Below w.heap.size w (wr.alloc (.cells #[.int .i64 h, .int .i64 u] 25))) := B0.out.alloc B0.out.size _
        obtain ⟨K1a, K1b, K1c, K1d⟩ := K1.out.all
        obtain ⟨K3a, K3b, K3c, K3d⟩ := K3.out.all
        by_cases htb : b < u
        · have V := Lib.hid (AN.out (.inl htb))
          go_wp2_with fail
          obtain ⟨E0, E1, -, -⟩ := ((K1.out.set0 (.int .i64 0)).set1 (.int .i64 0)).all
          refine bodyPost_ret (v := .tuple #[.agg #[.int .i64 0, .int .i64 0], .bool false]) (by simp [results, Try.results16, go_sem, E0, E1]) rfl ⟨by rw [V.out], ?_⟩
          exact (B1.out.setCell (Nat.le_refl _) _).setCell (Nat.le_refl _) _
        · go_wp2_with fail
          refine (sImage h u a m _).mono ?_
          rintro e w2 ⟨rfl, hb2⟩
          have K2 := Lib.hid (K1.out.keep hb2 K1.out.lt)
          have K4 := Lib.hid (K3.out.keep hb2 K3.out.lt)
          have B2 := Lib.hid (B1.out.trans (hb2.mono B1.out.size))
          obtain ⟨K2a, K2b, K2c, K2d⟩ := K2.out.all
          obtain ⟨K4a, K4b, K4c, K4d⟩ := K4.out.all
          clear hb2
          generalize imB h u a m = ib at AY AN ⊢
          cases ib with
          | false =>
            have V := Lib.hid (AN.out (.inr rfl))
            go_wp2_with fail
            obtain ⟨E0, E1, -, -⟩ := ((K2.out.set0 (.int .i64 0)).set1 (.int .i64 0)).all
            refine bodyPost_ret (v := .tuple #[.agg #[.int .i64 0, .int .i64 0], .bool false]) (by simp [results, Try.results16, go_sem, E0, E1]) rfl ⟨by rw [V.out], ?_⟩
            exact (B2.out.setCell (Nat.le_refl _) _).setCell (Nat.le_refl _) _
          | true =>
            have V := Lib.hid (AY.out (by omega) rfl)
            go_wp2_with fail
            obtain ⟨E0, E1, -, -⟩ := ((K2.out.set0 (.int .i64 h)).set1 (.int .i64 u)).all
            refine bodyPost_ret (v := .tuple #[.agg #[.int .i64 h, .int .i64 u], .bool true]) (by simp [results, Try.results16, go_sem, E0, E1]) rfl ⟨by rw [V.out], ?_⟩
            exact (B2.out.setCell (Nat.le_refl _) _).setCell (Nat.le_refl _) _
end Go.Proofs.Ytkphlfcbinjknaa
