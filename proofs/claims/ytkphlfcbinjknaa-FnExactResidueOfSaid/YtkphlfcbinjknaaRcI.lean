/-
  Chapter 10, in the program: RatioFrom.
-/
import Derived.Test.YtkphlfcbinjknaaRcIa
import Derived.Test.YtkphlfcbinjknaaReT
import Derived.WalkMore
import Derived.Test.YtkphlfcbinjknaaRgP
namespace Go.Proofs.Ytkphlfcbinjknaa
set_option maxRecDepth 100000
open Go.RowKit

/-- The multipliers never become less again. -/
theorem RInv.none (k : Nat) : ∀ {m a g x h u B : Int}, h.natAbs = k → RtA a m B → RInv m a g x h u → B < g → B < u ∨ B < -u → rtX a m B = (0, 0, false) := by
  induction k using Nat.strongRecOn with
  | ind k ih =>
    intro m a g x h u B hk A I gB hu
    have l := I.low
    have B1 := A.2.2.1.1
    by_cases hB : h ≤ B
    · refine I.ans_no A hB gB rfl rfl (.inl ?_)
      split <;> omega
    · have hp : 0 < h := by omega
      have J := I.step hp
      have j1 := J.less
      have j0 := J.low
      refine ih _ ?_ rfl A J (by omega) ?_
      · omega
      · have hq : 1 ≤ g / h := by
          have := I.less
          rw [Int.le_ediv_iff_mul_le hp]
          omega
        generalize g / h = q at hq ⊢
        rcases I.sg with ⟨h1, h2, h3⟩ | ⟨h1, h2, h3⟩
        · have := Int.mul_le_mul_of_nonneg_right hq (show 0 ≤ u by omega)
          omega
        · have := Int.mul_le_mul_of_nonneg_right hq (show 0 ≤ -u by omega)
          simp only [Int.mul_neg, Int.one_mul] at this
          omega

theorem two3 {W w' : World} {b g : Nat} {t t2 : TypeId} {p q r s1 s2 s3 : Value} (h0 : Blk3 W b t p q r) (h1 : Blk3 W g t2 s1 s2 s3) (hb : Below W.heap.size W w') :
    w'.cell? ⟨b, 0, none⟩ = some p ∧ w'.cell? ⟨b, 1, none⟩ = some q ∧ w'.cell? ⟨b, 2, none⟩ = some r ∧ w'.cell? ⟨g, 0, none⟩ = some s1 ∧ w'.cell? ⟨g, 1, none⟩ = some s2 ∧ w'.cell? ⟨g, 2, none⟩ = some s3 := by
  obtain ⟨a1, a2, a3, -, -, -⟩ := (h0.keep hb h0.lt).all
  obtain ⟨b1, b2, b3, -, -, -⟩ := (h1.keep hb h1.lt).all
  exact ⟨a1, a2, a3, b1, b2, b3⟩
set_option maxHeartbeats 4000000 in
theorem iRatio (a m b : Int) (w : World) : Calls Try.prog 13 #[.int .i64 a, .int .i64 m, .int .i64 b] w (Gives (.tuple #[.agg #[.int .i64 (rtX a m b).1, .int .i64 (rtX a m b).2.1], .bool (rtX a m b).2.2]) w) := by
  by_cases ha : NumP a
  rotate_left
  · have V : Hid (rtX a m b = (0, 0, false)) := rtX_no fun h => ha h.1
    have ha' : a < -400000000 ∨ 400000000 < a := by unfold NumP at ha; omega
    clear ha
    go_enter Try.func13, Try.ntmps13
    go_wp2_with fail
    have K0 : Hid (Blk2 (w.alloc (.cells #[.int .i64 0, .int .i64 0] 25)) w.heap.size 25 (.int .i64 0) (.int .i64 0)) := Blk2.at_ _ _ _ rfl
    have B0 : Hid (Below w.heap.size w (w.alloc (.cells #[.int .i64 0, .int .i64 0] 25))) := (Below.refl _ _).alloc (Nat.le_refl _) _
    generalize w.alloc (.cells #[.int .i64 0, .int .i64 0] 25) = W at K0 B0 ⊢
    obtain ⟨K0a, K0b, K0c, K0d⟩ := K0.out.all
    go_step3
    go_wp2_with fail
    refine (iIsNum_f a _ ha').mono ?_
    rintro e w' ⟨rfl, rfl⟩
    go_wp2_with fail
    rw [Exit.noGoto_ret]
    obtain ⟨E0, E1, -, -⟩ := ((K0.out.set0 (.int .i64 0)).set1 (.int .i64 0)).all
    refine bodyPost_ret (v := .tuple #[.agg #[.int .i64 0, .int .i64 0], .bool false]) (by simp [results, Try.results13, go_sem, E0, E1]) rfl ⟨by rw [V.out], ?_⟩
    exact (B0.out.setCell (Nat.le_refl _) _).setCell (Nat.le_refl _) _
  by_cases hm : 1 ≤ m ∧ m ≤ 400000000
  rotate_left
  · have V : Hid (rtX a m b = (0, 0, false)) := rtX_no fun h => hm h.2.1
    have hm' : m < 1 ∨ 400000000 < m := by omega
    clear hm
    go_enter Try.func13, Try.ntmps13
    go_wp2_with fail
    have K0 : Hid (Blk2 (w.alloc (.cells #[.int .i64 0, .int .i64 0] 25)) w.heap.size 25 (.int .i64 0) (.int .i64 0)) := Blk2.at_ _ _ _ rfl
    have B0 : Hid (Below w.heap.size w (w.alloc (.cells #[.int .i64 0, .int .i64 0] 25))) := (Below.refl _ _).alloc (Nat.le_refl _) _
    generalize w.alloc (.cells #[.int .i64 0, .int .i64 0] 25) = W at K0 B0 ⊢
    obtain ⟨K0a, K0b, K0c, K0d⟩ := K0.out.all
    go_step3
    go_wp2_with fail
    refine (iIsNum_t a _ ha.1 ha.2).mono ?_
    rintro e w' ⟨rfl, rfl⟩
    go_wp2_with fail
    refine (iIsMod_f m _ hm').mono ?_
    rintro e w' ⟨rfl, rfl⟩
    go_wp2_with fail
    rw [Exit.noGoto_ret]
    obtain ⟨E0, E1, -, -⟩ := ((K0.out.set0 (.int .i64 0)).set1 (.int .i64 0)).all
    refine bodyPost_ret (v := .tuple #[.agg #[.int .i64 0, .int .i64 0], .bool false]) (by simp [results, Try.results13, go_sem, E0, E1]) rfl ⟨by rw [V.out], ?_⟩
    exact (B0.out.setCell (Nat.le_refl _) _).setCell (Nat.le_refl _) _
  have sq0 : 1 ≤ b ∧ b ≤ 20000 → 0 ≤ 2 * b * b ∧ 2 * b * b ≤ 800000000 := fun hb => by
    have h1 := Int.mul_nonneg (show 0 ≤ 2 * b by omega) (show 0 ≤ b by omega)
    have h2 : 2 * b * b ≤ 40000 * 20000 := Int.mul_le_mul (by omega) hb.2 (by omega) (by decide)
    omega
  by_cases hb : (1 ≤ b ∧ b ≤ 20000) ∧ 2 * b * b < m
  rotate_left
  · have V : Hid (rtX a m b = (0, 0, false)) := rtX_no fun h => hb h.2.2
    by_cases b1 : b < 1
    · clear hb sq0
      go_enter Try.func13, Try.ntmps13
      go_wp2_with fail
      have K0 : Hid (Blk2 (w.alloc (.cells #[.int .i64 0, .int .i64 0] 25)) w.heap.size 25 (.int .i64 0) (.int .i64 0)) := Blk2.at_ _ _ _ rfl
      have B0 : Hid (Below w.heap.size w (w.alloc (.cells #[.int .i64 0, .int .i64 0] 25))) := (Below.refl _ _).alloc (Nat.le_refl _) _
      generalize w.alloc (.cells #[.int .i64 0, .int .i64 0] 25) = W at K0 B0 ⊢
      obtain ⟨K0a, K0b, K0c, K0d⟩ := K0.out.all
      go_step3
      go_wp2_with fail
      refine (iIsNum_t a _ ha.1 ha.2).mono ?_
      rintro e w' ⟨rfl, rfl⟩
      go_wp2_with fail
      refine (iIsMod_t m _ hm.1 hm.2).mono ?_
      rintro e w' ⟨rfl, rfl⟩
      go_wp2_with fail
      rw [Exit.noGoto_ret]
      obtain ⟨E0, E1, -, -⟩ := ((K0.out.set0 (.int .i64 0)).set1 (.int .i64 0)).all
      refine bodyPost_ret (v := .tuple #[.agg #[.int .i64 0, .int .i64 0], .bool false]) (by simp [results, Try.results13, go_sem, E0, E1]) rfl ⟨by rw [V.out], ?_⟩
      exact (B0.out.setCell (Nat.le_refl _) _).setCell (Nat.le_refl _) _
    by_cases b2 : 20000 < b
    · clear hb sq0
      go_enter Try.func13, Try.ntmps13
      go_wp2_with fail
      have K0 : Hid (Blk2 (w.alloc (.cells #[.int .i64 0, .int .i64 0] 25)) w.heap.size 25 (.int .i64 0) (.int .i64 0)) := Blk2.at_ _ _ _ rfl
      have B0 : Hid (Below w.heap.size w (w.alloc (.cells #[.int .i64 0, .int .i64 0] 25))) := (Below.refl _ _).alloc (Nat.le_refl _) _
      generalize w.alloc (.cells #[.int .i64 0, .int .i64 0] 25) = W at K0 B0 ⊢
      obtain ⟨K0a, K0b, K0c, K0d⟩ := K0.out.all
      go_step3
      go_wp2_with fail
      refine (iIsNum_t a _ ha.1 ha.2).mono ?_
      rintro e w' ⟨rfl, rfl⟩
      go_wp2_with fail
      refine (iIsMod_t m _ hm.1 hm.2).mono ?_
      rintro e w' ⟨rfl, rfl⟩
      go_wp2_with fail
      rw [Exit.noGoto_ret]
      obtain ⟨E0, E1, -, -⟩ := ((K0.out.set0 (.int .i64 0)).set1 (.int .i64 0)).all
      refine bodyPost_ret (v := .tuple #[.agg #[.int .i64 0, .int .i64 0], .bool false]) (by simp [results, Try.results13, go_sem, E0, E1]) rfl ⟨by rw [V.out], ?_⟩
      exact (B0.out.setCell (Nat.le_refl _) _).setCell (Nat.le_refl _) _
    obtain ⟨s1, s2⟩ := sq0 (by omega)
    have hq' : m ≤ 2 * b * b := by
      have : ¬ 2 * b * b < m := fun h => hb ⟨by omega, h⟩
      omega
    clear hb sq0
    go_enter Try.func13, Try.ntmps13
    go_wp2_with fail
    have K0 : Hid (Blk2 (w.alloc (.cells #[.int .i64 0, .int .i64 0] 25)) w.heap.size 25 (.int .i64 0) (.int .i64 0)) := Blk2.at_ _ _ _ rfl
    have B0 : Hid (Below w.heap.size w (w.alloc (.cells #[.int .i64 0, .int .i64 0] 25))) := (Below.refl _ _).alloc (Nat.le_refl _) _
    generalize w.alloc (.cells #[.int .i64 0, .int .i64 0] 25) = W at K0 B0 ⊢
    obtain ⟨K0a, K0b, K0c, K0d⟩ := K0.out.all
    go_step3
    go_wp2_with fail
    refine (iIsNum_t a _ ha.1 ha.2).mono ?_
    rintro e w' ⟨rfl, rfl⟩
    go_wp2_with fail
    refine (iIsMod_t m _ hm.1 hm.2).mono ?_
    rintro e w' ⟨rfl, rfl⟩
    go_wp2_with fail
    rw [Exit.noGoto_ret]
    obtain ⟨E0, E1, -, -⟩ := ((K0.out.set0 (.int .i64 0)).set1 (.int .i64 0)).all
    refine bodyPost_ret (v := .tuple #[.agg #[.int .i64 0, .int .i64 0], .bool false]) (by simp [results, Try.results13, go_sem, E0, E1]) rfl ⟨by rw [V.out], ?_⟩
    exact (B0.out.setCell (Nat.le_refl _) _).setCell (Nat.le_refl _) _
  obtain ⟨hb, hq⟩ := hb
  obtain ⟨s1, s2⟩ := sq0 hb
  clear sq0
  have A : Hid (RtA a m b) := ⟨ha, hm, hb, hq⟩
  obtain ⟨I0, gb0⟩ := A.out.start
  have I0 := Lib.hid I0
  have e1 := Int.emod_nonneg a (show m ≠ 0 by omega)
  have e2 := Int.emod_lt_of_pos a (show 0 < m by omega)
  have J0 := Lib.hid (Inv.start m (a % m) ⟨by omega, hm.2⟩ ⟨by omega, by omega⟩)
  have DA : Hid (∀ w', Calls Try.prog 24 #[.int .i64 a, .int .i64 m] w' fun e w2 => e = .returned (.tuple #[.int .i64 (a / m), .int .i64 (a % m), .bool true]) ∧ ∃ k, w2 = w'.drewN k) := fun w' => iDiv a m w' ha.1 ha.2 (by omega) hm.2 (by omega)
  have H1 : Hid (-400000000 ≤ m ∧ m ≤ 400000000) := ⟨by omega, hm.2⟩
  have H2 : Hid (-400000000 ≤ a % m ∧ a % m ≤ 400000000) := ⟨by omega, by omega⟩
  generalize a / m = aq at DA
  obtain ⟨r, hr⟩ : ∃ r, a % m = r := ⟨_, rfl⟩
  rw [hr] at e1 e2 I0 J0 DA H2
  clear hr
  have n1 : (m == 0) = false := by simp; omega
  go_enter Try.func13, Try.ntmps13
  go_wp2_with fail
  have K0 : Hid (Blk2 (w.alloc (.cells #[.int .i64 0, .int .i64 0] 25)) w.heap.size 25 (.int .i64 0) (.int .i64 0)) := Blk2.at_ _ _ _ rfl
  have B0 : Hid (Below w.heap.size w (w.alloc (.cells #[.int .i64 0, .int .i64 0] 25))) := (Below.refl _ _).alloc (Nat.le_refl _) _
  generalize w.alloc (.cells #[.int .i64 0, .int .i64 0] 25) = W at K0 B0 ⊢
  obtain ⟨K0a, K0b, K0c, K0d⟩ := K0.out.all
  go_step3
  go_wp2_with fail
  refine (iIsNum_t a _ ha.1 ha.2).mono ?_
  rintro e w' ⟨rfl, rfl⟩
  go_wp2_with fail
  refine (iIsMod_t m _ hm.1 hm.2).mono ?_
  rintro e w' ⟨rfl, rfl⟩
  go_wp2_with fail
  refine (DA.out _).mono ?_
  rintro e w' ⟨rfl, k, rfl⟩
  have K0 : Hid (Blk2 (W.drewN k) w.heap.size 25 (.int .i64 0) (.int .i64 0)) := K0.out.drewN k
  have B0 : Hid (Below w.heap.size w (W.drewN k)) := below_drewN B0.out k
  generalize W.drewN k = W at K0 B0 ⊢
  go_wp2_with fail
  have K1 : Hid (Blk3 ((W.alloc (.cells #[.int .i64 m, .int .i64 1, .int .i64 0] 52)).alloc (.cells #[.int .i64 r, .int .i64 0, .int .i64 1] 52)) W.heap.size 52 (.int .i64 m) (.int .i64 1) (.int .i64 0)) := (Blk3.at_ _ _ _ _ rfl).old _
  have K2 : Hid (Blk3 ((W.alloc (.cells #[.int .i64 m, .int .i64 1, .int .i64 0] 52)).alloc (.cells #[.int .i64 r, .int .i64 0, .int .i64 1] 52)) (W.heap.size + 1) 52 (.int .i64 r) (.int .i64 0) (.int .i64 1)) := Blk3.at_ _ _ _ _ (by simp)
  have K3 : Hid (Blk2 ((W.alloc (.cells #[.int .i64 m, .int .i64 1, .int .i64 0] 52)).alloc (.cells #[.int .i64 r, .int .i64 0, .int .i64 1] 52)) w.heap.size 25 (.int .i64 0) (.int .i64 0)) := (K0.out.old _).old _
  have B3 : Hid (Below w.heap.size w ((W.alloc (.cells #[.int .i64 m, .int .i64 1, .int .i64 0] 52)).alloc (.cells #[.int .i64 r, .int .i64 0, .int .i64 1] 52))) := (B0.out.alloc B0.out.size _).alloc (by have := B0.out.size; simp; omega) _
  have hW : Hid (w.heap.size < W.heap.size) := K0.out.lt
  clear K0a K0b K0c K0d
  generalize (W.alloc (.cells #[.int .i64 m, .int .i64 1, .int .i64 0] 52)).alloc (.cells #[.int .i64 r, .int .i64 0, .int .i64 1] 52) = W3 at K1 K2 K3 B3 ⊢
  generalize W.heap.size = sb at K1 K2 hW ⊢
  clear K0 B0
  go_step3
  go_wp2_with fail
  go_loopg [] r.natAbs (fun k wr => ∃ g p x h s u : Int, k = h.natAbs ∧ Inv m r g p x h s u ∧ RInv m a g x h u ∧ b < g ∧ Below w.heap.size w wr ∧
      Blk3 wr sb 52 (.int .i64 g) (.int .i64 p) (.int .i64 x) ∧ Blk3 wr (sb + 1) 52 (.int .i64 h) (.int .i64 s) (.int .i64 u) ∧ Blk2 wr w.heap.size 25 (.int .i64 0) (.int .i64 0))
  case atStart => exact ⟨m, 1, 0, r, 0, 1, rfl, J0.out, I0.out, gb0, B3.out, K1.out, K2.out, K3.out⟩
  case round =>
    obtain ⟨g, p, x, h, s, u, hk, i, j, gb, hbel, k1, k2, k3⟩ := hrel
    have HK := Lib.hid hk
    have I := Lib.hid j
    have J := Lib.hid i
    have K1 := Lib.hid k1
    have K2 := Lib.hid k2
    have K3 := Lib.hid k3
    have B := Lib.hid hbel
    obtain ⟨c0, c1, c2, f0, f1, f2⟩ := k1.all
    obtain ⟨d0, d1, d2, e0, e1, e2⟩ := k2.all
    obtain ⟨z0, z1, z2, z3⟩ := k3.all
    have hz := k2.lt
    have hz1 := k1.lt
    clear k1 k2 k3 hbel hk
    have ⟨g1, g2⟩ := i.g0
    have ⟨h1, h2⟩ := i.h0
    have ⟨p1, p2⟩ := i.x0
    have ⟨x1, x2⟩ := i.y0
    have ⟨s3, s4⟩ := i.u0
    have ⟨u1, u2⟩ := i.v0
    have l1 := j.low
    have l2 := j.less
    clear i j
    obtain ⟨t, ht, t1, t2, t3⟩ : ∃ t, (if u < -u then -u else u) = t ∧ u ≤ t ∧ -u ≤ t ∧ (t = u ∨ t = -u) := ⟨_, rfl, by split <;> omega, by split <;> omega, by split <;> omega⟩
    by_cases htb : b < t
    · have V : Hid (rtX a m b = (0, 0, false)) := RInv.none _ rfl A.out I.out gb (by omega)
      clear t1 t2 t3
      go_wp2_with fail
      obtain ⟨E0, E1, -, -⟩ := ((K3.out.set0 (.int .i64 0)).set1 (.int .i64 0)).all
      refine bodyPost_ret (v := .tuple #[.agg #[.int .i64 0, .int .i64 0], .bool false]) (by simp [results, Try.results13, go_sem, E0, E1]) rfl ⟨by rw [V.out], ?_⟩
      exact (B.out.setCell (Nat.le_refl _) _).setCell (Nat.le_refl _) _
    · have hut : ¬ b < t := htb
      by_cases hh : b < h
      · have hh0 : h ≠ 0 := by omega
        have n2 : (h == 0) = false := by simp; omega
        have d9 : Int.tdiv g h = g / h := Int.tdiv_eq_ediv_of_nonneg (by omega)
        obtain ⟨⟨q1, q2⟩, ⟨m3, m4⟩, ⟨m5, m6⟩, m7, m8⟩ := J.out.fits H1.out H2.out hh0
        have J2 := Lib.hid (J.out.step H1.out H2.out hh0)
        have I2 := Lib.hid (I.out.step (by omega))
        have L := Lib.hid (rem_lt g h hh0)
        rw [d9] at q1 q2 m3 m4 m5 m6 m7 m8 J2 L
        obtain ⟨q, hq9⟩ : ∃ q, g / h = q := ⟨_, rfl⟩
        rw [hq9] at d9 q1 q2 m3 m4 m5 m6 m7 m8 J2 L I2
        have vq : IntKind.i64.wrap q = q := IntWalk.i64_in _ (by omega)
        clear hq9 t1 t2 t3
        have LT : Hid (∀ w', Calls Try.prog 32 #[.agg #[.int .i64 g, .int .i64 p, .int .i64 x], .agg #[.int .i64 h, .int .i64 s, .int .i64 u], .int .i64 q] w' fun e w2 => e = .returned (.agg #[.int .i64 (g - q * h), .int .i64 (p - q * s), .int .i64 (x - q * u)]) ∧ Below w'.heap.size w' w2) := fun w' => lessT g p x h s u q w' (by omega) (by omega) (by omega) (by omega) (by omega) (by omega) (by omega) (by omega) (by omega) (by omega) (by omega) (by omega)
        go_wp2_with fail
        clear c0 c1 c2 d0 d1 d2 f0 f1 f2 e0 e1 e2
        refine wp_region_T (S := fun w' => Below wr.heap.size wr w') (T := fun j => j == 9 || j == 10) (by kernel_rfl) (Below.refl _ _).drew (fun hH => ?_)
        refine wpAnyT_take (i := 0) (v := ?_) (by simp only [List.getElem?_toArray, List.getElem?_cons_zero]; rfl) (by kernel_rfl) (by kernel_rfl) (by kernel_rfl) (by kernel_rfl) (two_only 9 10 (by kernel_rfl) (by kernel_rfl)) (by exact fun _ _ _ h => h) (Or.inl ⟨by rfl, ?_⟩) hH ?_
        rotate_left
        · (intro wS hS; (try dsimp only at hS); obtain ⟨k1, k2, k3, k4, k5, k6⟩ := two3 K1.out K2.out hS; go_simp; try rfl)
        try simp only [Act.put, List.setIfInBounds_toArray, List.set_cons_zero, List.set_cons_succ]
        refine wpAnyT_take (i := 1) (v := ?_) (by simp only [List.getElem?_toArray, List.getElem?_cons_succ, List.getElem?_cons_zero]; rfl) (by kernel_rfl) (by kernel_rfl) (by kernel_rfl) (by kernel_rfl) (two_only 9 10 (by kernel_rfl) (by kernel_rfl)) (by exact fun _ _ _ h => h) (Or.inl ⟨by rfl, ?_⟩) hH ?_
        rotate_left
        · (intro wS hS; (try dsimp only at hS); obtain ⟨k1, k2, k3, k4, k5, k6⟩ := two3 K1.out K2.out hS; go_simp; try rfl)
        try simp only [Act.put, List.setIfInBounds_toArray, List.set_cons_zero, List.set_cons_succ]
        refine wpAnyT_take (i := 2) (v := ?_) (by simp only [List.getElem?_toArray, List.getElem?_cons_succ, List.getElem?_cons_zero]; rfl) (by kernel_rfl) (by kernel_rfl) (by kernel_rfl) (by kernel_rfl) (two_only 9 10 (by kernel_rfl) (by kernel_rfl)) (by exact fun _ _ _ h => h) (Or.inl ⟨by rfl, ?_⟩) hH ?_
        rotate_left
        · (intro wS hS; (try dsimp only at hS); obtain ⟨k1, k2, k3, k4, k5, k6⟩ := two3 K1.out K2.out hS; go_simp; try rfl)
        try simp only [Act.put, List.setIfInBounds_toArray, List.set_cons_zero, List.set_cons_succ]
        refine wpAnyT_take (i := 3) (v := ?_) (by simp only [List.getElem?_toArray, List.getElem?_cons_succ, List.getElem?_cons_zero]; rfl) (by kernel_rfl) (by kernel_rfl) (by kernel_rfl) (by kernel_rfl) (two_only 9 10 (by kernel_rfl) (by kernel_rfl)) (by exact fun _ _ _ h => h) (Or.inl ⟨by rfl, ?_⟩) hH ?_
        rotate_left
        · (intro wS hS; clear hS; go_simp; try rfl)
        try simp only [Act.put, List.setIfInBounds_toArray, List.set_cons_zero, List.set_cons_succ]
        refine wpAnyT_take (i := 4) (v := ?_) (by simp only [List.getElem?_toArray, List.getElem?_cons_succ, List.getElem?_cons_zero]; rfl) (by kernel_rfl) (by kernel_rfl) (by kernel_rfl) (by kernel_rfl) (two_only 9 10 (by kernel_rfl) (by kernel_rfl)) (by exact fun _ _ _ h => h) (Or.inl ⟨by rfl, ?_⟩) hH ?_
        rotate_left
        · (intro wS hS; (try dsimp only at hS); obtain ⟨k1, k2, k3, k4, k5, k6⟩ := two3 K1.out K2.out hS; go_simp; try rfl)
        try simp only [Act.put, List.setIfInBounds_toArray, List.set_cons_zero, List.set_cons_succ]
        refine wpAnyT_take (i := 5) (v := ?_) (by simp only [List.getElem?_toArray, List.getElem?_cons_succ, List.getElem?_cons_zero]; rfl) (by kernel_rfl) (by kernel_rfl) (by kernel_rfl) (by kernel_rfl) (two_only 9 10 (by kernel_rfl) (by kernel_rfl)) (by exact fun _ _ _ h => h) (Or.inl ⟨by rfl, ?_⟩) hH ?_
        rotate_left
        · (intro wS hS; clear hS; go_simp; try rfl)
        try simp only [Act.put, List.setIfInBounds_toArray, List.set_cons_zero, List.set_cons_succ]
        refine wpAnyT_take (i := 6) (v := ?_) (by simp only [List.getElem?_toArray, List.getElem?_cons_succ, List.getElem?_cons_zero]; rfl) (by kernel_rfl) (by kernel_rfl) (by kernel_rfl) (by kernel_rfl) (two_only 9 10 (by kernel_rfl) (by kernel_rfl)) (by exact fun _ _ _ h => h) (Or.inl ⟨by rfl, ?_⟩) hH ?_
        rotate_left
        · (intro wS hS; (try dsimp only at hS); obtain ⟨k1, k2, k3, k4, k5, k6⟩ := two3 K1.out K2.out hS; go_simp; try rfl)
        try simp only [Act.put, List.setIfInBounds_toArray, List.set_cons_zero, List.set_cons_succ]
        refine wpAnyT_take (i := 7) (v := ?_) (by simp only [List.getElem?_toArray, List.getElem?_cons_succ, List.getElem?_cons_zero]; rfl) (by kernel_rfl) (by kernel_rfl) (by kernel_rfl) (by kernel_rfl) (two_only 9 10 (by kernel_rfl) (by kernel_rfl)) (by exact fun _ _ _ h => h) (Or.inl ⟨by rfl, ?_⟩) hH ?_
        rotate_left
        · (intro wS hS; clear hS; go_simp; try rfl)
        try simp only [Act.put, List.setIfInBounds_toArray, List.set_cons_zero, List.set_cons_succ]
        refine wpAnyT_ready (rs := [8]) (by kernel_rfl) (by simp) ?_
        refine AllReadyT.cons (by simp only [List.getElem?_toArray, List.getElem?_cons_succ, List.getElem?_cons_zero]; rfl) (fun K hK => ?_) AllReadyT.nil
        go_simp
        (with_reducible refine (LT.out _).mono ?_)
        rintro e v1 ⟨rfl, hb1⟩
        try dsimp only
        refine hK.out _ _ (fun _ => hH.trans (hb1.mono hH.size)) ?_
        clear hK K
        have hH := hH.trans (hb1.mono hH.size)
        try simp only [Act.put, List.setIfInBounds_toArray, List.set_cons_zero, List.set_cons_succ]
        refine wpAnyT_ready (rs := [9]) (by kernel_rfl) (by simp) ?_
        refine AllReadyT.cons (by simp only [List.getElem?_toArray, List.getElem?_cons_succ, List.getElem?_cons_zero]; rfl) (fun K hK => ?_) AllReadyT.nil
        obtain ⟨C0, C1, C2, F0, F1, F2⟩ := (K1.out.keep hH hz1).all
        obtain ⟨D0, D1, D2, G0, G1, G2⟩ := (K2.out.keep hH hz).all
        go_simp
        try dsimp only
        refine hK.out _ _ (fun h => by cases h) ?_
        clear hK K
        try simp only [Act.put, List.setIfInBounds_toArray, List.set_cons_zero, List.set_cons_succ]
        refine wpAnyT_ready (rs := [10]) (by kernel_rfl) (by simp) ?_
        refine AllReadyT.cons (by simp only [List.getElem?_toArray, List.getElem?_cons_succ, List.getElem?_cons_zero]; rfl) (fun K hK => ?_) AllReadyT.nil
        go_simp
        try dsimp only
        refine hK.out _ _ (fun h => by cases h) ?_
        clear hK K
        try simp only [Act.put, List.setIfInBounds_toArray, List.set_cons_zero, List.set_cons_succ]
        refine wpAnyT_done (by kernel_rfl) ?_ _
        go_wp2_with fail
        go_roundg (g - q * h).natAbs
        case measure => rw [HK.out]; exact L.out
        case rel =>
          have hw := hW.out
          have KW := K3.out.lt
          refine ⟨h, s, u, _, _, _, rfl, J2.out, I2.out, hh, ?_, ?_, ?_, ?_⟩
          · exact ((((((B.out.trans (hH.mono (by omega))).setCell (by simp; omega) _).setCell (by simp; omega) _).setCell (by simp; omega) _).setCell (by simp; omega) _).setCell (by simp; omega) _).setCell (by simp; omega) _
          · exact ((((((K1.out.keep hH hz1).set0 _).set1 _).set2 _).far (by simp) _).far (by simp) _).far (by simp) _
          · exact ((((((K2.out.keep hH hz).far (by simp) _).far (by simp) _).far (by simp) _).set0 _).set1 _).set2 _
          · exact ((((((K3.out.keep hH KW).far (by simp; omega) _).far (by simp; omega) _).far (by simp; omega) _).far (by simp; omega) _).far (by simp; omega) _).far (by simp; omega) _
      · by_cases hu : u < 0
        · obtain ⟨s', hs'⟩ : ∃ s', -h = s' := ⟨_, rfl⟩
          obtain ⟨t', ht'⟩ : ∃ t', -u = t' := ⟨_, rfl⟩
          have AY : Hid (imB s' t' a m = true → rtX a m b = (s', t', true)) := fun h2 => I.out.ans_yes A.out (by omega) gb ((if_pos hu).trans hs') ((if_pos hu).trans ht') (by omega) h2
          have AN : Hid (imB s' t' a m = false → rtX a m b = (0, 0, false)) := fun h1 => I.out.ans_no A.out (by omega) gb ((if_pos hu).trans hs') ((if_pos hu).trans ht') (.inr h1)
          clear t1 t2 t3
          go_wp2_with fail
          refine (lessT 0 0 0 h s u 1 _ (by omega) (by omega) (by omega) (by omega) (by omega) (by omega) (by omega) (by omega) (by omega) (by omega) (by omega) (by omega)).mono ?_
          rintro e w1 ⟨rfl, hb1⟩
          rw [show (0 : Int) - 1 * h = s' by omega, show (0 : Int) - 1 * u = t' by omega]
          clear c0 c1 c2 d0 d1 d2 f0 f1 f2 e0 e1 e2
          obtain ⟨s9, hs9⟩ : ∃ s9, (0 : Int) - 1 * s = s9 := ⟨_, rfl⟩
          rw [hs9]
          clear hs9
          obtain ⟨C0, C1, C2, F0, F1, F2⟩ := (K2.out.keep hb1 hz).all
          have K6 := Lib.hid ((((K3.out.keep hb1 K3.out.lt).far (a := ⟨sb + 1, 0, none⟩) (by have := hW.out; simp; omega) (.int .i64 s')).far (a := ⟨sb + 1, 1, none⟩) (by have := hW.out; simp; omega) (.int .i64 s9)).far (a := ⟨sb + 1, 2, none⟩) (by have := hW.out; simp; omega) (.int .i64 t'))
          have K7 := Lib.hid ((((K2.out.keep hb1 hz).set0 (.int .i64 s')).set1 (.int .i64 s9)).set2 (.int .i64 t'))
          have BW : Hid (w.heap.size ≤ sb + 1) := by have := hW.out; show _ ≤ _; omega
          have B0 := Lib.hid ((((B.out.trans (hb1.mono (by have := B.out.size; omega))).setCell (p := ⟨sb + 1, 0, none⟩) BW.out (.int .i64 s')).setCell (p := ⟨sb + 1, 1, none⟩) BW.out (.int .i64 s9)).setCell (p := ⟨sb + 1, 2, none⟩) BW.out (.int .i64 t'))
          obtain ⟨K7a, K7b, K7c, K7d, K7e, K7f⟩ := K7.out.all
          have K1 : Hid (Blk2 ((((w1.setCell ⟨sb + 1, 0, none⟩ (.int .i64 s')).setCell ⟨sb + 1, 1, none⟩ (.int .i64 s9)).setCell ⟨sb + 1, 2, none⟩ (.int .i64 t')).alloc (.cells #[.int .i64 s', .int .i64 t'] 25)) w.heap.size 25 (.int .i64 0) (.int .i64 0)) := K6.out.old _
          have K5 : Hid (Blk2 ((((w1.setCell ⟨sb + 1, 0, none⟩ (.int .i64 s')).setCell ⟨sb + 1, 1, none⟩ (.int .i64 s9)).setCell ⟨sb + 1, 2, none⟩ (.int .i64 t')).alloc (.cells #[.int .i64 s', .int .i64 t'] 25)) w1.heap.size 25 (.int .i64 s') (.int .i64 t')) := Blk2.at_ _ _ _ (by simp [World.setCell])
          have B1 : Hid (Below w.heap.size w ((((w1.setCell ⟨sb + 1, 0, none⟩ (.int .i64 s')).setCell ⟨sb + 1, 1, none⟩ (.int .i64 s9)).setCell ⟨sb + 1, 2, none⟩ (.int .i64 t')).alloc (.cells #[.int .i64 s', .int .i64 t'] 25))) := B0.out.alloc B0.out.size _
          go_wp2_with fail
          refine (iImage s' t' a m _).mono ?_
          rintro e w2 ⟨rfl, hb2⟩
          have K2 := Lib.hid (K1.out.keep hb2 K1.out.lt)
          have K4 := Lib.hid (K5.out.keep hb2 K5.out.lt)
          have B2 := Lib.hid (B1.out.trans (hb2.mono B1.out.size))
          obtain ⟨K2a, K2b, K2c, K2d⟩ := K2.out.all
          obtain ⟨K4a, K4b, K4c, K4d⟩ := K4.out.all
          clear hb2
          generalize imB s' t' a m = ib at AY AN ⊢
          cases ib with
          | false =>
            have V := Lib.hid (AN.out rfl)
            go_wp2_with fail
            obtain ⟨E0, E1, -, -⟩ := ((K2.out.set0 (.int .i64 0)).set1 (.int .i64 0)).all
            refine bodyPost_ret (v := .tuple #[.agg #[.int .i64 0, .int .i64 0], .bool false]) (by simp [results, Try.results13, go_sem, E0, E1]) rfl ⟨by rw [V.out], ?_⟩
            exact (B2.out.setCell (Nat.le_refl _) _).setCell (Nat.le_refl _) _
          | true =>
            have V := Lib.hid (AY.out rfl)
            go_wp2_with fail
            obtain ⟨E0, E1, -, -⟩ := ((K2.out.set0 (.int .i64 s')).set1 (.int .i64 t')).all
            refine bodyPost_ret (v := .tuple #[.agg #[.int .i64 s', .int .i64 t'], .bool true]) (by simp [results, Try.results13, go_sem, E0, E1]) rfl ⟨by rw [V.out], ?_⟩
            exact (B2.out.setCell (Nat.le_refl _) _).setCell (Nat.le_refl _) _
        · have AY : Hid (imB h u a m = true → rtX a m b = (h, u, true)) := fun h2 => I.out.ans_yes A.out (by omega) gb (if_neg hu) (if_neg hu) (by omega) h2
          have AN : Hid (imB h u a m = false → rtX a m b = (0, 0, false)) := fun h1 => I.out.ans_no A.out (by omega) gb (if_neg hu) (if_neg hu) (.inr h1)
          clear t1 t2 t3
          have K1 : Hid (Blk2 (wr.alloc (.cells #[.int .i64 h, .int .i64 u] 25)) w.heap.size 25 (.int .i64 0) (.int .i64 0)) := K3.out.old _
          have K5 : Hid (Blk2 (wr.alloc (.cells #[.int .i64 h, .int .i64 u] 25)) wr.heap.size 25 (.int .i64 h) (.int .i64 u)) := Blk2.at_ _ _ _ rfl
          have B1 : Hid (Below w.heap.size w (wr.alloc (.cells #[.int .i64 h, .int .i64 u] 25))) := B.out.alloc B.out.size _
          go_wp2_with fail
          refine (iImage h u a m _).mono ?_
          rintro e w2 ⟨rfl, hb2⟩
          have K2 := Lib.hid (K1.out.keep hb2 K1.out.lt)
          have K4 := Lib.hid (K5.out.keep hb2 K5.out.lt)
          have B2 := Lib.hid (B1.out.trans (hb2.mono B1.out.size))
          obtain ⟨K2a, K2b, K2c, K2d⟩ := K2.out.all
          obtain ⟨K4a, K4b, K4c, K4d⟩ := K4.out.all
          clear hb2
          generalize imB h u a m = ib at AY AN ⊢
          cases ib with
          | false =>
            have V := Lib.hid (AN.out rfl)
            go_wp2_with fail
            obtain ⟨E0, E1, -, -⟩ := ((K2.out.set0 (.int .i64 0)).set1 (.int .i64 0)).all
            refine bodyPost_ret (v := .tuple #[.agg #[.int .i64 0, .int .i64 0], .bool false]) (by simp [results, Try.results13, go_sem, E0, E1]) rfl ⟨by rw [V.out], ?_⟩
            exact (B2.out.setCell (Nat.le_refl _) _).setCell (Nat.le_refl _) _
          | true =>
            have V := Lib.hid (AY.out rfl)
            go_wp2_with fail
            obtain ⟨E0, E1, -, -⟩ := ((K2.out.set0 (.int .i64 h)).set1 (.int .i64 u)).all
            refine bodyPost_ret (v := .tuple #[.agg #[.int .i64 h, .int .i64 u], .bool true]) (by simp [results, Try.results13, go_sem, E0, E1]) rfl ⟨by rw [V.out], ?_⟩
            exact (B2.out.setCell (Nat.le_refl _) _).setCell (Nat.le_refl _) _
end Go.Proofs.Ytkphlfcbinjknaa
