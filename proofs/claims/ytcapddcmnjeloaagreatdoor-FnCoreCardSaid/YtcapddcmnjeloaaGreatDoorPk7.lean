/-
  Texts of this seat, joined: ZARcI · ZARqX · ZALfF · ZARgY · ZAPrI4 · ZAAsH · ZAAsM · ZALfB · ZASqI
-/
import Derived.WalkMore
import Derived.Test.YtcapddcmnjeloaaGreatDoorProg
import Derived.RangeFuncNested
import Derived.RangeFuncBound
import Derived.RangeFuncCalls
import Derived.RangeFuncLeaves
import Derived.Maps.OwnIn
import Derived.Test.YtcapddcmnjeloaaGreatDoorChecked
import Derived.WalkKit
import Derived.LaidEql
import Derived.Stop.Asserts
import Derived.RowKitTokens
import Derived.IntWalk
import Derived.Test.YtcapddcmnjeloaaGreatDoorPk3
import Derived.Test.YtcapddcmnjeloaaGreatDoorPk4
import Derived.Test.YtcapddcmnjeloaaGreatDoorPk6

section
/-
  Chapter 10, in the program: RatioFrom.
-/
namespace Go.Proofs.YtcapddcmnjeloaaGreatDoor
set_option maxRecDepth 100000
open Go.RowKit
theorem RInv.none (k : Nat) : ∀ {m a g x h u B : Int}, h.natAbs = k → RtA a m B → RInv m a g x h u → B < g → B < u ∨ B < -u → rtX a m B = (0, 0, false) := by
  induction k using Nat.strongRecOn with
  | ind k ih =>
    intro m a g x h u B hk A I gB hu
    have l := I.low
    have B1 := A.2.2.1.1
    by_cases hB : h ≤ B
    · refine I.ans_no A hB gB rfl rfl (.inl ?_)
      split <;> omega
    · have hp : 0 < h := by omega
      have J := I.step hp
      have j1 := J.less
      have j0 := J.low
      refine ih _ ?_ rfl A J (by omega) ?_
      · omega
      · have hq : 1 ≤ g / h := by
          have := I.less
          rw [Int.le_ediv_iff_mul_le hp]
          omega
        generalize g / h = q at hq ⊢
        rcases I.sg with ⟨h1, h2, h3⟩ | ⟨h1, h2, h3⟩
        · have := Int.mul_le_mul_of_nonneg_right hq (show 0 ≤ u by omega)
          omega
        · have := Int.mul_le_mul_of_nonneg_right hq (show 0 ≤ -u by omega)
          simp only [Int.mul_neg, Int.one_mul] at this
          omega
theorem two3 {W w' : World} {b g : Nat} {t t2 : TypeId} {p q r s1 s2 s3 : Value} (h0 : Blk3 W b t p q r) (h1 : Blk3 W g t2 s1 s2 s3) (hb : Below W.heap.size W w') :
    w'.cell? ⟨b, 0, none⟩ = some p ∧ w'.cell? ⟨b, 1, none⟩ = some q ∧ w'.cell? ⟨b, 2, none⟩ = some r ∧ w'.cell? ⟨g, 0, none⟩ = some s1 ∧ w'.cell? ⟨g, 1, none⟩ = some s2 ∧ w'.cell? ⟨g, 2, none⟩ = some s3 := by
  obtain ⟨a1, a2, a3, -, -, -⟩ := (h0.keep hb h0.lt).all
  obtain ⟨b1, b2, b3, -, -, -⟩ := (h1.keep hb h1.lt).all
  exact ⟨a1, a2, a3, b1, b2, b3⟩
set_option maxHeartbeats 4000000 in
theorem iRatio (a m b : Int) (w : World) : Calls Tryz.prog 137 #[.int .i64 a, .int .i64 m, .int .i64 b] w (Gives (.tuple #[.agg #[.int .i64 (rtX a m b).1, .int .i64 (rtX a m b).2.1], .bool (rtX a m b).2.2]) w) := by
  by_cases ha : NumP a
  rotate_left
  · have V : Hid (rtX a m b = (0, 0, false)) := rtX_no fun h => ha h.1
    have ha' : a < -400000000 ∨ 400000000 < a := by unfold NumP at ha; omega
    clear ha
    go_enter Tryz.func137, Tryz.ntmps137
    go_wp2_with fail
    have K0 : Hid (Blk2 (w.alloc (.cells #[.int .i64 0, .int .i64 0] 40)) w.heap.size 40 (.int .i64 0) (.int .i64 0)) := Blk2.at_ _ _ _ rfl
    have B0 : Hid (Below w.heap.size w (w.alloc (.cells #[.int .i64 0, .int .i64 0] 40))) := (Below.refl _ _).alloc (Nat.le_refl _) _
    generalize w.alloc (.cells #[.int .i64 0, .int .i64 0] 40) = W at K0 B0 ⊢
    obtain ⟨K0a, K0b, K0c, K0d⟩ := K0.out.all
    go_step3
    go_wp2_with fail
    refine (iIsNum_f a _ ha').mono ?_
    rintro e w' ⟨rfl, rfl⟩
    go_wp2_with fail
    rw [Exit.noGoto_ret]
    obtain ⟨E0, E1, -, -⟩ := ((K0.out.set0 (.int .i64 0)).set1 (.int .i64 0)).all
    refine bodyPost_ret (v := .tuple #[.agg #[.int .i64 0, .int .i64 0], .bool false]) (by simp [results, Tryz.results137, go_sem, E0, E1]) rfl ⟨by rw [V.out], ?_⟩
    exact (B0.out.setCell (Nat.le_refl _) _).setCell (Nat.le_refl _) _
  by_cases hm : 1 ≤ m ∧ m ≤ 400000000
  rotate_left
  · have V : Hid (rtX a m b = (0, 0, false)) := rtX_no fun h => hm h.2.1
    have hm' : m < 1 ∨ 400000000 < m := by omega
    clear hm
    go_enter Tryz.func137, Tryz.ntmps137
    go_wp2_with fail
    have K0 : Hid (Blk2 (w.alloc (.cells #[.int .i64 0, .int .i64 0] 40)) w.heap.size 40 (.int .i64 0) (.int .i64 0)) := Blk2.at_ _ _ _ rfl
    have B0 : Hid (Below w.heap.size w (w.alloc (.cells #[.int .i64 0, .int .i64 0] 40))) := (Below.refl _ _).alloc (Nat.le_refl _) _
    generalize w.alloc (.cells #[.int .i64 0, .int .i64 0] 40) = W at K0 B0 ⊢
    obtain ⟨K0a, K0b, K0c, K0d⟩ := K0.out.all
    go_step3
    go_wp2_with fail
    refine (iIsNum_t a _ ha.1 ha.2).mono ?_
    rintro e w' ⟨rfl, rfl⟩
    go_wp2_with fail
    refine (iIsMod_f m _ hm').mono ?_
    rintro e w' ⟨rfl, rfl⟩
    go_wp2_with fail
    rw [Exit.noGoto_ret]
    obtain ⟨E0, E1, -, -⟩ := ((K0.out.set0 (.int .i64 0)).set1 (.int .i64 0)).all
    refine bodyPost_ret (v := .tuple #[.agg #[.int .i64 0, .int .i64 0], .bool false]) (by simp [results, Tryz.results137, go_sem, E0, E1]) rfl ⟨by rw [V.out], ?_⟩
    exact (B0.out.setCell (Nat.le_refl _) _).setCell (Nat.le_refl _) _
  have sq0 : 1 ≤ b ∧ b ≤ 20000 → 0 ≤ 2 * b * b ∧ 2 * b * b ≤ 800000000 := fun hb => by
    have h1 := Int.mul_nonneg (show 0 ≤ 2 * b by omega) (show 0 ≤ b by omega)
    have h2 : 2 * b * b ≤ 40000 * 20000 := Int.mul_le_mul (by omega) hb.2 (by omega) (by decide)
    omega
  by_cases hb : (1 ≤ b ∧ b ≤ 20000) ∧ 2 * b * b < m
  rotate_left
  · have V : Hid (rtX a m b = (0, 0, false)) := rtX_no fun h => hb h.2.2
    by_cases b1 : b < 1
    · clear hb sq0
      go_enter Tryz.func137, Tryz.ntmps137
      go_wp2_with fail
      have K0 : Hid (Blk2 (w.alloc (.cells #[.int .i64 0, .int .i64 0] 40)) w.heap.size 40 (.int .i64 0) (.int .i64 0)) := Blk2.at_ _ _ _ rfl
      have B0 : Hid (Below w.heap.size w (w.alloc (.cells #[.int .i64 0, .int .i64 0] 40))) := (Below.refl _ _).alloc (Nat.le_refl _) _
      generalize w.alloc (.cells #[.int .i64 0, .int .i64 0] 40) = W at K0 B0 ⊢
      obtain ⟨K0a, K0b, K0c, K0d⟩ := K0.out.all
      go_step3
      go_wp2_with fail
      refine (iIsNum_t a _ ha.1 ha.2).mono ?_
      rintro e w' ⟨rfl, rfl⟩
      go_wp2_with fail
      refine (iIsMod_t m _ hm.1 hm.2).mono ?_
      rintro e w' ⟨rfl, rfl⟩
      go_wp2_with fail
      rw [Exit.noGoto_ret]
      obtain ⟨E0, E1, -, -⟩ := ((K0.out.set0 (.int .i64 0)).set1 (.int .i64 0)).all
      refine bodyPost_ret (v := .tuple #[.agg #[.int .i64 0, .int .i64 0], .bool false]) (by simp [results, Tryz.results137, go_sem, E0, E1]) rfl ⟨by rw [V.out], ?_⟩
      exact (B0.out.setCell (Nat.le_refl _) _).setCell (Nat.le_refl _) _
    by_cases b2 : 20000 < b
    · clear hb sq0
      go_enter Tryz.func137, Tryz.ntmps137
      go_wp2_with fail
      have K0 : Hid (Blk2 (w.alloc (.cells #[.int .i64 0, .int .i64 0] 40)) w.heap.size 40 (.int .i64 0) (.int .i64 0)) := Blk2.at_ _ _ _ rfl
      have B0 : Hid (Below w.heap.size w (w.alloc (.cells #[.int .i64 0, .int .i64 0] 40))) := (Below.refl _ _).alloc (Nat.le_refl _) _
      generalize w.alloc (.cells #[.int .i64 0, .int .i64 0] 40) = W at K0 B0 ⊢
      obtain ⟨K0a, K0b, K0c, K0d⟩ := K0.out.all
      go_step3
      go_wp2_with fail
      refine (iIsNum_t a _ ha.1 ha.2).mono ?_
      rintro e w' ⟨rfl, rfl⟩
      go_wp2_with fail
      refine (iIsMod_t m _ hm.1 hm.2).mono ?_
      rintro e w' ⟨rfl, rfl⟩
      go_wp2_with fail
      rw [Exit.noGoto_ret]
      obtain ⟨E0, E1, -, -⟩ := ((K0.out.set0 (.int .i64 0)).set1 (.int .i64 0)).all
      refine bodyPost_ret (v := .tuple #[.agg #[.int .i64 0, .int .i64 0], .bool false]) (by simp [results, Tryz.results137, go_sem, E0, E1]) rfl ⟨by rw [V.out], ?_⟩
      exact (B0.out.setCell (Nat.le_refl _) _).setCell (Nat.le_refl _) _
    obtain ⟨s1, s2⟩ := sq0 (by omega)
    have hq' : m ≤ 2 * b * b := by
      have : ¬ 2 * b * b < m := fun h => hb ⟨by omega, h⟩
      omega
    clear hb sq0
    go_enter Tryz.func137, Tryz.ntmps137
    go_wp2_with fail
    have K0 : Hid (Blk2 (w.alloc (.cells #[.int .i64 0, .int .i64 0] 40)) w.heap.size 40 (.int .i64 0) (.int .i64 0)) := Blk2.at_ _ _ _ rfl
    have B0 : Hid (Below w.heap.size w (w.alloc (.cells #[.int .i64 0, .int .i64 0] 40))) := (Below.refl _ _).alloc (Nat.le_refl _) _
    generalize w.alloc (.cells #[.int .i64 0, .int .i64 0] 40) = W at K0 B0 ⊢
    obtain ⟨K0a, K0b, K0c, K0d⟩ := K0.out.all
    go_step3
    go_wp2_with fail
    refine (iIsNum_t a _ ha.1 ha.2).mono ?_
    rintro e w' ⟨rfl, rfl⟩
    go_wp2_with fail
    refine (iIsMod_t m _ hm.1 hm.2).mono ?_
    rintro e w' ⟨rfl, rfl⟩
    go_wp2_with fail
    rw [Exit.noGoto_ret]
    obtain ⟨E0, E1, -, -⟩ := ((K0.out.set0 (.int .i64 0)).set1 (.int .i64 0)).all
    refine bodyPost_ret (v := .tuple #[.agg #[.int .i64 0, .int .i64 0], .bool false]) (by simp [results, Tryz.results137, go_sem, E0, E1]) rfl ⟨by rw [V.out], ?_⟩
    exact (B0.out.setCell (Nat.le_refl _) _).setCell (Nat.le_refl _) _
  obtain ⟨hb, hq⟩ := hb
  obtain ⟨s1, s2⟩ := sq0 hb
  clear sq0
  have A : Hid (RtA a m b) := ⟨ha, hm, hb, hq⟩
  obtain ⟨I0, gb0⟩ := A.out.start
  have I0 := Lib.hid I0
  have e1 := Int.emod_nonneg a (show m ≠ 0 by omega)
  have e2 := Int.emod_lt_of_pos a (show 0 < m by omega)
  have J0 := Lib.hid (Inv.start m (a % m) ⟨by omega, hm.2⟩ ⟨by omega, by omega⟩)
  have DA : Hid (∀ w', Calls Tryz.prog 110 #[.int .i64 a, .int .i64 m] w' fun e w2 => e = .returned (.tuple #[.int .i64 (a / m), .int .i64 (a % m), .bool true]) ∧ ∃ k, w2 = w'.drewN k) := fun w' => iDiv a m w' ha.1 ha.2 (by omega) hm.2 (by omega)
  have H1 : Hid (-400000000 ≤ m ∧ m ≤ 400000000) := ⟨by omega, hm.2⟩
  have H2 : Hid (-400000000 ≤ a % m ∧ a % m ≤ 400000000) := ⟨by omega, by omega⟩
  generalize a / m = aq at DA
  obtain ⟨r, hr⟩ : ∃ r, a % m = r := ⟨_, rfl⟩
  rw [hr] at e1 e2 I0 J0 DA H2
  clear hr
  have n1 : (m == 0) = false := by simp; omega
  go_enter Tryz.func137, Tryz.ntmps137
  go_wp2_with fail
  have K0 : Hid (Blk2 (w.alloc (.cells #[.int .i64 0, .int .i64 0] 40)) w.heap.size 40 (.int .i64 0) (.int .i64 0)) := Blk2.at_ _ _ _ rfl
  have B0 : Hid (Below w.heap.size w (w.alloc (.cells #[.int .i64 0, .int .i64 0] 40))) := (Below.refl _ _).alloc (Nat.le_refl _) _
  generalize w.alloc (.cells #[.int .i64 0, .int .i64 0] 40) = W at K0 B0 ⊢
  obtain ⟨K0a, K0b, K0c, K0d⟩ := K0.out.all
  go_step3
  go_wp2_with fail
  refine (iIsNum_t a _ ha.1 ha.2).mono ?_
  rintro e w' ⟨rfl, rfl⟩
  go_wp2_with fail
  refine (iIsMod_t m _ hm.1 hm.2).mono ?_
  rintro e w' ⟨rfl, rfl⟩
  go_wp2_with fail
  refine (DA.out _).mono ?_
  rintro e w' ⟨rfl, k, rfl⟩
  have K0 : Hid (Blk2 (W.drewN k) w.heap.size 40 (.int .i64 0) (.int .i64 0)) := K0.out.drewN k
  have B0 : Hid (Below w.heap.size w (W.drewN k)) := below_drewN B0.out k
  generalize W.drewN k = W at K0 B0 ⊢
  go_wp2_with fail
  have K1 : Hid (Blk3 ((W.alloc (.cells #[.int .i64 m, .int .i64 1, .int .i64 0] 182)).alloc (.cells #[.int .i64 r, .int .i64 0, .int .i64 1] 182)) W.heap.size 182 (.int .i64 m) (.int .i64 1) (.int .i64 0)) := (Blk3.at_ _ _ _ _ rfl).old _
  have K2 : Hid (Blk3 ((W.alloc (.cells #[.int .i64 m, .int .i64 1, .int .i64 0] 182)).alloc (.cells #[.int .i64 r, .int .i64 0, .int .i64 1] 182)) (W.heap.size + 1) 182 (.int .i64 r) (.int .i64 0) (.int .i64 1)) := Blk3.at_ _ _ _ _ (by simp)
  have K3 : Hid (Blk2 ((W.alloc (.cells #[.int .i64 m, .int .i64 1, .int .i64 0] 182)).alloc (.cells #[.int .i64 r, .int .i64 0, .int .i64 1] 182)) w.heap.size 40 (.int .i64 0) (.int .i64 0)) := (K0.out.old _).old _
  have B3 : Hid (Below w.heap.size w ((W.alloc (.cells #[.int .i64 m, .int .i64 1, .int .i64 0] 182)).alloc (.cells #[.int .i64 r, .int .i64 0, .int .i64 1] 182))) := (B0.out.alloc B0.out.size _).alloc (by have := B0.out.size; simp; omega) _
  have hW : Hid (w.heap.size < W.heap.size) := K0.out.lt
  clear K0a K0b K0c K0d
  generalize (W.alloc (.cells #[.int .i64 m, .int .i64 1, .int .i64 0] 182)).alloc (.cells #[.int .i64 r, .int .i64 0, .int .i64 1] 182) = W3 at K1 K2 K3 B3 ⊢
  generalize W.heap.size = sb at K1 K2 hW ⊢
  clear K0 B0
  go_step3
  go_wp2_with fail
  go_loopg [] r.natAbs (fun k wr => ∃ g p x h s u : Int, k = h.natAbs ∧ Inv m r g p x h s u ∧ RInv m a g x h u ∧ b < g ∧ Below w.heap.size w wr ∧
      Blk3 wr sb 182 (.int .i64 g) (.int .i64 p) (.int .i64 x) ∧ Blk3 wr (sb + 1) 182 (.int .i64 h) (.int .i64 s) (.int .i64 u) ∧ Blk2 wr w.heap.size 40 (.int .i64 0) (.int .i64 0))
  case atStart => exact ⟨m, 1, 0, r, 0, 1, rfl, J0.out, I0.out, gb0, B3.out, K1.out, K2.out, K3.out⟩
  case round =>
    obtain ⟨g, p, x, h, s, u, hk, i, j, gb, hbel, k1, k2, k3⟩ := hrel
    have HK := Lib.hid hk
    have I := Lib.hid j
    have J := Lib.hid i
    have K1 := Lib.hid k1
    have K2 := Lib.hid k2
    have K3 := Lib.hid k3
    have B := Lib.hid hbel
    obtain ⟨c0, c1, c2, f0, f1, f2⟩ := k1.all
    obtain ⟨d0, d1, d2, e0, e1, e2⟩ := k2.all
    obtain ⟨z0, z1, z2, z3⟩ := k3.all
    have hz := k2.lt
    have hz1 := k1.lt
    clear k1 k2 k3 hbel hk
    have ⟨g1, g2⟩ := i.g0
    have ⟨h1, h2⟩ := i.h0
    have ⟨p1, p2⟩ := i.x0
    have ⟨x1, x2⟩ := i.y0
    have ⟨s3, s4⟩ := i.u0
    have ⟨u1, u2⟩ := i.v0
    have l1 := j.low
    have l2 := j.less
    clear i j
    obtain ⟨t, ht, t1, t2, t3⟩ : ∃ t, (if u < -u then -u else u) = t ∧ u ≤ t ∧ -u ≤ t ∧ (t = u ∨ t = -u) := ⟨_, rfl, by split <;> omega, by split <;> omega, by split <;> omega⟩
    by_cases htb : b < t
    · have V : Hid (rtX a m b = (0, 0, false)) := RInv.none _ rfl A.out I.out gb (by omega)
      clear t1 t2 t3
      go_wp2_with fail
      obtain ⟨E0, E1, -, -⟩ := ((K3.out.set0 (.int .i64 0)).set1 (.int .i64 0)).all
      refine bodyPost_ret (v := .tuple #[.agg #[.int .i64 0, .int .i64 0], .bool false]) (by simp [results, Tryz.results137, go_sem, E0, E1]) rfl ⟨by rw [V.out], ?_⟩
      exact (B.out.setCell (Nat.le_refl _) _).setCell (Nat.le_refl _) _
    · have hut : ¬ b < t := htb
      by_cases hh : b < h
      · have hh0 : h ≠ 0 := by omega
        have n2 : (h == 0) = false := by simp; omega
        have d9 : Int.tdiv g h = g / h := Int.tdiv_eq_ediv_of_nonneg (by omega)
        obtain ⟨⟨q1, q2⟩, ⟨m3, m4⟩, ⟨m5, m6⟩, m7, m8⟩ := J.out.fits H1.out H2.out hh0
        have J2 := Lib.hid (J.out.step H1.out H2.out hh0)
        have I2 := Lib.hid (I.out.step (by omega))
        have L := Lib.hid (rem_lt g h hh0)
        rw [d9] at q1 q2 m3 m4 m5 m6 m7 m8 J2 L
        obtain ⟨q, hq9⟩ : ∃ q, g / h = q := ⟨_, rfl⟩
        rw [hq9] at d9 q1 q2 m3 m4 m5 m6 m7 m8 J2 L I2
        have vq : IntKind.i64.wrap q = q := IntWalk.i64_in _ (by omega)
        clear hq9 t1 t2 t3
        have LT : Hid (∀ w', Calls Tryz.prog 166 #[.agg #[.int .i64 g, .int .i64 p, .int .i64 x], .agg #[.int .i64 h, .int .i64 s, .int .i64 u], .int .i64 q] w' fun e w2 => e = .returned (.agg #[.int .i64 (g - q * h), .int .i64 (p - q * s), .int .i64 (x - q * u)]) ∧ Below w'.heap.size w' w2) := fun w' => lessT g p x h s u q w' (by omega) (by omega) (by omega) (by omega) (by omega) (by omega) (by omega) (by omega) (by omega) (by omega) (by omega) (by omega)
        go_wp2_with fail
        clear c0 c1 c2 d0 d1 d2 f0 f1 f2 e0 e1 e2
        refine wp_region_T (S := fun w' => Below wr.heap.size wr w') (T := fun j => j == 9 || j == 10) (by kernel_rfl) (Below.refl _ _).drew (fun hH => ?_)
        refine wpAnyT_take (i := 0) (v := ?_) (by simp only [List.getElem?_toArray, List.getElem?_cons_zero]; rfl) (by kernel_rfl) (by kernel_rfl) (by kernel_rfl) (by kernel_rfl) (two_only 9 10 (by kernel_rfl) (by kernel_rfl)) (by exact fun _ _ _ h => h) (Or.inl ⟨by rfl, ?_⟩) hH ?_
        rotate_left
        · (intro wS hS; (try dsimp only at hS); obtain ⟨k1, k2, k3, k4, k5, k6⟩ := two3 K1.out K2.out hS; go_simp; try rfl)
        try simp only [Act.put, List.setIfInBounds_toArray, List.set_cons_zero, List.set_cons_succ]
        refine wpAnyT_take (i := 1) (v := ?_) (by simp only [List.getElem?_toArray, List.getElem?_cons_succ, List.getElem?_cons_zero]; rfl) (by kernel_rfl) (by kernel_rfl) (by kernel_rfl) (by kernel_rfl) (two_only 9 10 (by kernel_rfl) (by kernel_rfl)) (by exact fun _ _ _ h => h) (Or.inl ⟨by rfl, ?_⟩) hH ?_
        rotate_left
        · (intro wS hS; (try dsimp only at hS); obtain ⟨k1, k2, k3, k4, k5, k6⟩ := two3 K1.out K2.out hS; go_simp; try rfl)
        try simp only [Act.put, List.setIfInBounds_toArray, List.set_cons_zero, List.set_cons_succ]
        refine wpAnyT_take (i := 2) (v := ?_) (by simp only [List.getElem?_toArray, List.getElem?_cons_succ, List.getElem?_cons_zero]; rfl) (by kernel_rfl) (by kernel_rfl) (by kernel_rfl) (by kernel_rfl) (two_only 9 10 (by kernel_rfl) (by kernel_rfl)) (by exact fun _ _ _ h => h) (Or.inl ⟨by rfl, ?_⟩) hH ?_
        rotate_left
        · (intro wS hS; (try dsimp only at hS); obtain ⟨k1, k2, k3, k4, k5, k6⟩ := two3 K1.out K2.out hS; go_simp; try rfl)
        try simp only [Act.put, List.setIfInBounds_toArray, List.set_cons_zero, List.set_cons_succ]
        refine wpAnyT_take (i := 3) (v := ?_) (by simp only [List.getElem?_toArray, List.getElem?_cons_succ, List.getElem?_cons_zero]; rfl) (by kernel_rfl) (by kernel_rfl) (by kernel_rfl) (by kernel_rfl) (two_only 9 10 (by kernel_rfl) (by kernel_rfl)) (by exact fun _ _ _ h => h) (Or.inl ⟨by rfl, ?_⟩) hH ?_
        rotate_left
        · (intro wS hS; clear hS; go_simp; try rfl)
        try simp only [Act.put, List.setIfInBounds_toArray, List.set_cons_zero, List.set_cons_succ]
        refine wpAnyT_take (i := 4) (v := ?_) (by simp only [List.getElem?_toArray, List.getElem?_cons_succ, List.getElem?_cons_zero]; rfl) (by kernel_rfl) (by kernel_rfl) (by kernel_rfl) (by kernel_rfl) (two_only 9 10 (by kernel_rfl) (by kernel_rfl)) (by exact fun _ _ _ h => h) (Or.inl ⟨by rfl, ?_⟩) hH ?_
        rotate_left
        · (intro wS hS; (try dsimp only at hS); obtain ⟨k1, k2, k3, k4, k5, k6⟩ := two3 K1.out K2.out hS; go_simp; try rfl)
        try simp only [Act.put, List.setIfInBounds_toArray, List.set_cons_zero, List.set_cons_succ]
        refine wpAnyT_take (i := 5) (v := ?_) (by simp only [List.getElem?_toArray, List.getElem?_cons_succ, List.getElem?_cons_zero]; rfl) (by kernel_rfl) (by kernel_rfl) (by kernel_rfl) (by kernel_rfl) (two_only 9 10 (by kernel_rfl) (by kernel_rfl)) (by exact fun _ _ _ h => h) (Or.inl ⟨by rfl, ?_⟩) hH ?_
        rotate_left
        · (intro wS hS; clear hS; go_simp; try rfl)
        try simp only [Act.put, List.setIfInBounds_toArray, List.set_cons_zero, List.set_cons_succ]
        refine wpAnyT_take (i := 6) (v := ?_) (by simp only [List.getElem?_toArray, List.getElem?_cons_succ, List.getElem?_cons_zero]; rfl) (by kernel_rfl) (by kernel_rfl) (by kernel_rfl) (by kernel_rfl) (two_only 9 10 (by kernel_rfl) (by kernel_rfl)) (by exact fun _ _ _ h => h) (Or.inl ⟨by rfl, ?_⟩) hH ?_
        rotate_left
        · (intro wS hS; (try dsimp only at hS); obtain ⟨k1, k2, k3, k4, k5, k6⟩ := two3 K1.out K2.out hS; go_simp; try rfl)
        try simp only [Act.put, List.setIfInBounds_toArray, List.set_cons_zero, List.set_cons_succ]
        refine wpAnyT_take (i := 7) (v := ?_) (by simp only [List.getElem?_toArray, List.getElem?_cons_succ, List.getElem?_cons_zero]; rfl) (by kernel_rfl) (by kernel_rfl) (by kernel_rfl) (by kernel_rfl) (two_only 9 10 (by kernel_rfl) (by kernel_rfl)) (by exact fun _ _ _ h => h) (Or.inl ⟨by rfl, ?_⟩) hH ?_
        rotate_left
        · (intro wS hS; clear hS; go_simp; try rfl)
        try simp only [Act.put, List.setIfInBounds_toArray, List.set_cons_zero, List.set_cons_succ]
        refine wpAnyT_ready (rs := [8]) (by kernel_rfl) (by simp) ?_
        refine AllReadyT.cons (by simp only [List.getElem?_toArray, List.getElem?_cons_succ, List.getElem?_cons_zero]; rfl) (fun K hK => ?_) AllReadyT.nil
        go_simp
        (with_reducible refine (LT.out _).mono ?_)
        rintro e v1 ⟨rfl, hb1⟩
        try dsimp only
        refine hK.out _ _ (fun _ => hH.trans (hb1.mono hH.size)) ?_
        clear hK K
        have hH := hH.trans (hb1.mono hH.size)
        try simp only [Act.put, List.setIfInBounds_toArray, List.set_cons_zero, List.set_cons_succ]
        refine wpAnyT_ready (rs := [9]) (by kernel_rfl) (by simp) ?_
        refine AllReadyT.cons (by simp only [List.getElem?_toArray, List.getElem?_cons_succ, List.getElem?_cons_zero]; rfl) (fun K hK => ?_) AllReadyT.nil
        obtain ⟨C0, C1, C2, F0, F1, F2⟩ := (K1.out.keep hH hz1).all
        obtain ⟨D0, D1, D2, G0, G1, G2⟩ := (K2.out.keep hH hz).all
        go_simp
        try dsimp only
        refine hK.out _ _ (fun h => by cases h) ?_
        clear hK K
        try simp only [Act.put, List.setIfInBounds_toArray, List.set_cons_zero, List.set_cons_succ]
        refine wpAnyT_ready (rs := [10]) (by kernel_rfl) (by simp) ?_
        refine AllReadyT.cons (by simp only [List.getElem?_toArray, List.getElem?_cons_succ, List.getElem?_cons_zero]; rfl) (fun K hK => ?_) AllReadyT.nil
        go_simp
        try dsimp only
        refine hK.out _ _ (fun h => by cases h) ?_
        clear hK K
        try simp only [Act.put, List.setIfInBounds_toArray, List.set_cons_zero, List.set_cons_succ]
        refine wpAnyT_done (by kernel_rfl) ?_ _
        go_wp2_with fail
        go_roundg (g - q * h).natAbs
        case measure => rw [HK.out]; exact L.out
        case rel =>
          have hw := hW.out
          have KW := K3.out.lt
          refine ⟨h, s, u, _, _, _, rfl, J2.out, I2.out, hh, ?_, ?_, ?_, ?_⟩
          · exact ((((((B.out.trans (hH.mono (by omega))).setCell (by simp; omega) _).setCell (by simp; omega) _).setCell (by simp; omega) _).setCell (by simp; omega) _).setCell (by simp; omega) _).setCell (by simp; omega) _
          · exact ((((((K1.out.keep hH hz1).set0 _).set1 _).set2 _).far (by simp) _).far (by simp) _).far (by simp) _
          · exact ((((((K2.out.keep hH hz).far (by simp) _).far (by simp) _).far (by simp) _).set0 _).set1 _).set2 _
          · exact ((((((K3.out.keep hH KW).far (by simp; omega) _).far (by simp; omega) _).far (by simp; omega) _).far (by simp; omega) _).far (by simp; omega) _).far (by simp; omega) _
      · by_cases hu : u < 0
        · obtain ⟨s', hs'⟩ : ∃ s', -h = s' := ⟨_, rfl⟩
          obtain ⟨t', ht'⟩ : ∃ t', -u = t' := ⟨_, rfl⟩
          have AY : Hid (imB s' t' a m = true → rtX a m b = (s', t', true)) := fun h2 => I.out.ans_yes A.out (by omega) gb ((if_pos hu).trans hs') ((if_pos hu).trans ht') (by omega) h2
          have AN : Hid (imB s' t' a m = false → rtX a m b = (0, 0, false)) := fun h1 => I.out.ans_no A.out (by omega) gb ((if_pos hu).trans hs') ((if_pos hu).trans ht') (.inr h1)
          clear t1 t2 t3
          go_wp2_with fail
          refine (lessT 0 0 0 h s u 1 _ (by omega) (by omega) (by omega) (by omega) (by omega) (by omega) (by omega) (by omega) (by omega) (by omega) (by omega) (by omega)).mono ?_
          rintro e w1 ⟨rfl, hb1⟩
          rw [show (0 : Int) - 1 * h = s' by omega, show (0 : Int) - 1 * u = t' by omega]
          clear c0 c1 c2 d0 d1 d2 f0 f1 f2 e0 e1 e2
          obtain ⟨s9, hs9⟩ : ∃ s9, (0 : Int) - 1 * s = s9 := ⟨_, rfl⟩
          rw [hs9]
          clear hs9
          obtain ⟨C0, C1, C2, F0, F1, F2⟩ := (K2.out.keep hb1 hz).all
          have K6 := Lib.hid ((((K3.out.keep hb1 K3.out.lt).far (a := ⟨sb + 1, 0, none⟩) (by have := hW.out; simp; omega) (.int .i64 s')).far (a := ⟨sb + 1, 1, none⟩) (by have := hW.out; simp; omega) (.int .i64 s9)).far (a := ⟨sb + 1, 2, none⟩) (by have := hW.out; simp; omega) (.int .i64 t'))
          have K7 := Lib.hid ((((K2.out.keep hb1 hz).set0 (.int .i64 s')).set1 (.int .i64 s9)).set2 (.int .i64 t'))
          have BW : Hid (w.heap.size ≤ sb + 1) := by have := hW.out; show _ ≤ _; omega
          have B0 := Lib.hid ((((B.out.trans (hb1.mono (by have := B.out.size; omega))).setCell (p := ⟨sb + 1, 0, none⟩) BW.out (.int .i64 s')).setCell (p := ⟨sb + 1, 1, none⟩) BW.out (.int .i64 s9)).setCell (p := ⟨sb + 1, 2, none⟩) BW.out (.int .i64 t'))
          obtain ⟨K7a, K7b, K7c, K7d, K7e, K7f⟩ := K7.out.all
          have K1 : Hid (Blk2 ((((w1.setCell ⟨sb + 1, 0, none⟩ (.int .i64 s')).setCell ⟨sb + 1, 1, none⟩ (.int .i64 s9)).setCell ⟨sb + 1, 2, none⟩ (.int .i64 t')).alloc (.cells #[.int .i64 s', .int .i64 t'] 40)) w.heap.size 40 (.int .i64 0) (.int .i64 0)) := K6.out.old _
          have K5 : Hid (Blk2 ((((w1.setCell ⟨sb + 1, 0, none⟩ (.int .i64 s')).setCell ⟨sb + 1, 1, none⟩ (.int .i64 s9)).setCell ⟨sb + 1, 2, none⟩ (.int .i64 t')).alloc (.cells #[.int .i64 s', .int .i64 t'] 40)) w1.heap.size 40 (.int .i64 s') (.int .i64 t')) := Blk2.at_ _ _ _ (by simp [World.setCell])
          have B1 : Hid (Below w.heap.size w ((((w1.setCell ⟨sb + 1, 0, none⟩ (.int .i64 s')).setCell ⟨sb + 1, 1, none⟩ (.int .i64 s9)).setCell ⟨sb + 1, 2, none⟩ (.int .i64 t')).alloc (.cells #[.int .i64 s', .int .i64 t'] 40))) := B0.out.alloc B0.out.size _
          go_wp2_with fail
          refine (iImage s' t' a m _).mono ?_
          rintro e w2 ⟨rfl, hb2⟩
          have K2 := Lib.hid (K1.out.keep hb2 K1.out.lt)
          have K4 := Lib.hid (K5.out.keep hb2 K5.out.lt)
          have B2 := Lib.hid (B1.out.trans (hb2.mono B1.out.size))
          obtain ⟨K2a, K2b, K2c, K2d⟩ := K2.out.all
          obtain ⟨K4a, K4b, K4c, K4d⟩ := K4.out.all
          clear hb2
          generalize imB s' t' a m = ib at AY AN ⊢
          cases ib with
          | false =>
            have V := Lib.hid (AN.out rfl)
            go_wp2_with fail
            obtain ⟨E0, E1, -, -⟩ := ((K2.out.set0 (.int .i64 0)).set1 (.int .i64 0)).all
            refine bodyPost_ret (v := .tuple #[.agg #[.int .i64 0, .int .i64 0], .bool false]) (by simp [results, Tryz.results137, go_sem, E0, E1]) rfl ⟨by rw [V.out], ?_⟩
            exact (B2.out.setCell (Nat.le_refl _) _).setCell (Nat.le_refl _) _
          | true =>
            have V := Lib.hid (AY.out rfl)
            go_wp2_with fail
            obtain ⟨E0, E1, -, -⟩ := ((K2.out.set0 (.int .i64 s')).set1 (.int .i64 t')).all
            refine bodyPost_ret (v := .tuple #[.agg #[.int .i64 s', .int .i64 t'], .bool true]) (by simp [results, Tryz.results137, go_sem, E0, E1]) rfl ⟨by rw [V.out], ?_⟩
            exact (B2.out.setCell (Nat.le_refl _) _).setCell (Nat.le_refl _) _
        · have AY : Hid (imB h u a m = true → rtX a m b = (h, u, true)) := fun h2 => I.out.ans_yes A.out (by omega) gb (if_neg hu) (if_neg hu) (by omega) h2
          have AN : Hid (imB h u a m = false → rtX a m b = (0, 0, false)) := fun h1 => I.out.ans_no A.out (by omega) gb (if_neg hu) (if_neg hu) (.inr h1)
          clear t1 t2 t3
          have K1 : Hid (Blk2 (wr.alloc (.cells #[.int .i64 h, .int .i64 u] 40)) w.heap.size 40 (.int .i64 0) (.int .i64 0)) := K3.out.old _
          have K5 : Hid (Blk2 (wr.alloc (.cells #[.int .i64 h, .int .i64 u] 40)) wr.heap.size 40 (.int .i64 h) (.int .i64 u)) := Blk2.at_ _ _ _ rfl
          have B1 : Hid (Below w.heap.size w (wr.alloc (.cells #[.int .i64 h, .int .i64 u] 40))) := B.out.alloc B.out.size _
          go_wp2_with fail
          refine (iImage h u a m _).mono ?_
          rintro e w2 ⟨rfl, hb2⟩
          have K2 := Lib.hid (K1.out.keep hb2 K1.out.lt)
          have K4 := Lib.hid (K5.out.keep hb2 K5.out.lt)
          have B2 := Lib.hid (B1.out.trans (hb2.mono B1.out.size))
          obtain ⟨K2a, K2b, K2c, K2d⟩ := K2.out.all
          obtain ⟨K4a, K4b, K4c, K4d⟩ := K4.out.all
          clear hb2
          generalize imB h u a m = ib at AY AN ⊢
          cases ib with
          | false =>
            have V := Lib.hid (AN.out rfl)
            go_wp2_with fail
            obtain ⟨E0, E1, -, -⟩ := ((K2.out.set0 (.int .i64 0)).set1 (.int .i64 0)).all
            refine bodyPost_ret (v := .tuple #[.agg #[.int .i64 0, .int .i64 0], .bool false]) (by simp [results, Tryz.results137, go_sem, E0, E1]) rfl ⟨by rw [V.out], ?_⟩
            exact (B2.out.setCell (Nat.le_refl _) _).setCell (Nat.le_refl _) _
          | true =>
            have V := Lib.hid (AY.out rfl)
            go_wp2_with fail
            obtain ⟨E0, E1, -, -⟩ := ((K2.out.set0 (.int .i64 h)).set1 (.int .i64 u)).all
            refine bodyPost_ret (v := .tuple #[.agg #[.int .i64 h, .int .i64 u], .bool true]) (by simp [results, Tryz.results137, go_sem, E0, E1]) rfl ⟨by rw [V.out], ?_⟩
            exact (B2.out.setCell (Nat.le_refl _) _).setCell (Nat.le_refl _) _
end Go.Proofs.YtcapddcmnjeloaaGreatDoor
end

section
/-
  A list of ratios that a call makes at its full length and fills; what a road to a solution gives.
-/
namespace Go.Proofs.YtcapddcmnjeloaaGreatDoor
open Go.RowKit
theorem makeQx (n : Nat) (h : n ≤ 4194304) (w : World) : (Instr.makeSlice 29 (.int .i64 (n : Int)) (.int .i64 (n : Int))).run Tryz.prog w = .ok (.slice (some ⟨w.heap.size, 0, none⟩) n n) (w.alloc (.cells (madeCells #[.int .i64 0, .int .i64 0] (n * 2)) 40)) := by
  obtain ⟨fi, hfi, hz0, hz1, hz2⟩ := facts_rat
  have := run_makeSlice (P := Tryz.prog) (w := w) 29 40 fi _ underlying_rats hfi hz0 .i64 .i64 (n : Int) (n : Int) (by omega) (by omega) (by rw [hz1]; omega) (by rw [hz2]; omega) (by omega)
  rw [hz1] at this
  exact this
def QsX (w : World) (g : Nat) (l : List (Int × Int)) : Prop := w.heap[g]? = some (.cells (flatQ l).toArray 40 (0, 0))
theorem QsX.qs {w : World} {g : Nat} {l : List (Int × Int)} (h : QsX w g l) : QsB w g l := ⟨[], by rw [List.append_nil]; exact h⟩
theorem QsX.lt {w : World} {g : Nat} {l : List (Int × Int)} (h : QsX w g l) : g < w.heap.size := lt_of_block h
theorem QsX.set {w : World} {g : Nat} {l : List (Int × Int)} (h : QsX w g l) {q : Nat} (hq : q < l.length) (u : Int × Int) :
    QsX ((w.setCell ⟨g, q * 2, none⟩ (.int .i64 u.1)).setCell ⟨g, q * 2 + 1, none⟩ (.int .i64 u.2)) g (l.set q u) := by
  have e := flatQ_set l [] u q hq
  rw [List.append_nil, List.append_nil] at e
  unfold QsX
  rw [← e]
  exact setCell_blockQ (setCell_blockQ h _ _) _ _
theorem QsX.keep {w w' : World} {g B : Nat} {l : List (Int × Int)} (h : QsX w g l) (hb : Below B w w') (hB : g < B) : QsX w' g l := (hb.block g hB).trans h
theorem QsX.old {w : World} {g : Nat} {l : List (Int × Int)} (h : QsX w g l) (o : Obj) : QsX (w.alloc o) g l := (Below.heap_alloc w o g h.lt).trans h
theorem QsX.made {w : World} {g : Nat} (n : Nat) (hg : g = w.heap.size) : QsX (w.alloc (.cells (madeCells #[.int .i64 0, .int .i64 0] (n * 2)) 40)) g (List.replicate n ((0, 0) : Int × Int)) := by
  subst hg
  unfold QsX
  rw [flatQ_zeros]
  exact heap_alloc_new w _
theorem QsX.own {B : Nat} {w : World} {g : Nat} {l : List (Int × Int)} (h : QsX w g l) (hB : B ≤ g) (hl : l.length ≤ 4194304) : OwnR B w (.slice (some ⟨g, 0, none⟩) l.length l.length) l :=
  ⟨by rw [flatQ_length], .inr ⟨g, l.length, (flatQ l).toArray, rfl, hB, h, Nat.le_refl _, by unfold maxLen; omega, by simp [flatQ_length], by simp [← flatQ_length]⟩⟩
theorem up_set {l : List (Int × Int)} {i n : Nat} (hl : l.length = i) (hi : i < n) (u : Int × Int) : (l ++ List.replicate (n - i) ((0, 0) : Int × Int)).set i u = (l ++ [u]) ++ List.replicate (n - (i + 1)) ((0, 0) : Int × Int) := by
  obtain ⟨k, hk⟩ : ∃ k, n - i = k + 1 := ⟨n - i - 1, by omega⟩
  have hk' : n - (i + 1) = k := by omega
  subst hl
  rw [hk, hk', List.set_append_right _ _ (Nat.le_refl _), Nat.sub_self, List.replicate_succ, List.set_cons_zero, List.append_assoc]
  rfl
def RoadRes (zs : List (Int × Int)) (ok : Bool) (w : World) (e : Ending) (w' : World) : Prop := ∃ v ev : Value, e = .returned (.tuple #[v, ev]) ∧ OwnR w.heap.size w' v zs ∧ Below w.heap.size w w' ∧ ((ok = true ∧ ev = .nilIface) ∨ (ok = false ∧ ∃ t u, ev = .iface t u))
end Go.Proofs.YtcapddcmnjeloaaGreatDoor
end

section
/-
  Chapter 11, in the program: liftedFrom.
-/
namespace Go.Proofs.YtcapddcmnjeloaaGreatDoor
set_option maxRecDepth 100000
open Go.RowKit
theorem LfH.at_ {p : Int} {n : Nat} {xs bs : List Int} (lo : 101 ≤ p) (hi : p ≤ 199) (inv : (ivX n n p xs).ok = true) (hs : sysB n n xs bs = true) : LfH p n xs (ivL p n xs) bs ∧ ivX n n p xs = ⟨true, n, n, ivL p n xs⟩ := by
  obtain ⟨n', e0, -, h6, hx, nx, hb, nb⟩ := sysB_says hs
  obtain rfl : n = n' := by omega
  obtain ⟨n', e1, e2, -, hp2, hx2, -, hge, e3, hv, hc⟩ := ivX_says inv
  have : n' = n := by omega
  subst this
  exact ⟨⟨lo, hi, h6, hx, nx, hb, nb, hv, hc, (elW_inv (prmB_says hp2).1 hx2).2.1 (by omega)⟩, e3⟩
def LiftRes (p : Int) (inv : Bool) (zs : List (Int × Int)) (ok : Bool) (w : World) (e : Ending) (w' : World) : Prop := ∃ v ev : Value, e = .returned (.tuple #[v, ev]) ∧ Below w.heap.size w w' ∧
  ((inv = false ∧ v = .slice none 0 0 ∧ ev = .iface 104 (.agg #[.int .i64 p])) ∨ (inv = true ∧ OwnR w.heap.size w' v zs ∧ ((ok = true ∧ ev = .nilIface) ∨ (ok = false ∧ ∃ s, ev = .iface 95 (.string s)))))
set_option maxHeartbeats 8000000 in
theorem iLifted (p : Int) (n : Nat) (a : Option Addr) (m : Nat) (xs : List Int) (ab : Option Addr) (mb : Nat) (bs : List Int) (w : World) (lo : 101 ≤ p) (hi : p ≤ 199) (h : Rd w a xs) (hc : CelA a xs.length m) (hs : sysB n n xs bs = true) (hb : Rd w ab bs) :
    Calls Tryz.prog 85 #[.agg #[.int .i64 n, .int .i64 n, .slice a xs.length m], .slice ab bs.length mb, .int .i64 p] w (LiftRes p (ivX n n p xs).ok (slQ p n xs bs).1 (slQ p n xs bs).2 w) := by
  obtain ⟨n', hn', -, h6, hx, hnx, hbl, hnb⟩ := sysB_says hs
  obtain rfl : n = n' := by omega
  have N36 : n * n ≤ 36 := Nat.mul_le_mul h6 h6
  have IV : Hid (∀ w', Below w.heap.size w w' → Calls Tryz.prog 134 #[.agg #[.int .i64 n, .int .i64 n, .slice a xs.length m], .int .i64 p] w' (MatRes (ivX n n p xs) w')) := fun w' hb => iIvx n n p a m xs w' (h.below hb) (by omega)
  have LF : Hid ((ivX n n p xs).ok = true → ∀ (q : Option Addr) (cap : Nat) (w' : World), Below w.heap.size w w' → Rd w' q (ivX n n p xs).zs → CelA q (ivX n n p xs).zs.length cap → (ivX n n p xs).r = n ∧ (ivX n n p xs).c = n ∧ Calls Tryz.prog 135 #[.agg #[.int .i64 n, .int .i64 n, .slice a xs.length m], .agg #[.int .i64 n, .int .i64 n, .slice q (ivX n n p xs).zs.length cap], .slice ab bs.length mb, .int .i64 p] w' (fun e w2 => ∃ v, e = .returned (.tuple #[v, .int .i64 (p ^ lfK p)]) ∧ Own w'.heap.size w2 v (lfS p n xs (ivX n n p xs).zs bs (lfK p)).1 ∧ Below w'.heap.size w' w2)) := fun inv q cap w' hb' hr hq => by
    obtain ⟨H, e⟩ := LfH.at_ lo hi inv hs
    rw [e] at hr hq ⊢
    dsimp only at hr hq ⊢
    rw [H.hv] at hq ⊢
    have := iLift p n (n * n) a m xs q cap (ivL p n xs) ab mb bs w' H rfl (h.below hb') (by rw [← hx]; exact hc) hr hq (hb.below hb')
    rw [hx, hbl]
    exact ⟨rfl, rfl, this⟩
  have LL : Hid ((lfS p n xs (ivX n n p xs).zs bs (lfK p)).1.length = n) := lfS_xl _
  have PK := lfK_go lo hi
  have PB : Hid (∀ w', Calls Tryz.prog 136 #[.int .i64 (p ^ lfK p)] w' (fun e w2 => e = .returned (.int .i64 (lfB (p ^ lfK p))) ∧ w' = w2)) := fun w' => iBound _ w' (by have := PK.2.2.1; omega) PK.2.2.2
  have RF : Hid (∀ x y z w', Calls Tryz.prog 137 #[.int .i64 x, .int .i64 y, .int .i64 z] w' (Gives (.tuple #[.agg #[.int .i64 (rtX x y z).1, .int .i64 (rtX x y z).2.1], .bool (rtX x y z).2.2]) w')) := fun x y z w' => iRatio x y z w'
  have IR : Hid (∀ (az : Option Addr) (mz : Nat) (w' : World), Below w.heap.size w w' → RdQ w' az (slZ p n xs bs n) → Calls Tryz.prog 13 #[.agg #[.int .i64 n, .int .i64 n, .slice a xs.length m], .slice ab bs.length mb, .slice az n mz] w' (Gives (.bool (irB n n xs bs (slZ p n xs bs n))) w')) := fun az mz w' hb' hz => by
    have := iRational n n a m xs ab mb bs az mz (slZ p n xs bs n) w' (h.below hb') hc (by omega) (hb.below hb') (by omega) hz (by rw [slZ_length]; omega)
    rw [slZ_length] at this
    exact this
  have QB : Hid (∀ i, i < n → (slR p n xs bs i).2.2 = false → slQ p n xs bs = ([], false)) := fun i hi h => slQ_bad hi h
  have QI : Hid (irB n n xs bs (slZ p n xs bs n) = false → slQ p n xs bs = ([], false)) := fun h => slQ_ir h
  have QY : Hid ((∀ i, i < n → (slR p n xs bs i).2.2 = true) → irB n n xs bs (slZ p n xs bs n) = true → slQ p n xs bs = (slZ p n xs bs n, true)) := fun h1 h2 => slQ_yes h1 h2
  have ZS : Hid (∀ i, slZ p n xs bs (i + 1) = slZ p n xs bs i ++ [((slR p n xs bs i).1, (slR p n xs bs i).2.1)]) := fun i => slZ_succ p n xs bs i
  have ZL : Hid (∀ i, (slZ p n xs bs i).length = i) := fun i => slZ_length p n xs bs i
  have RE : Hid (∀ i, rtX ((lfS p n xs (ivX n n p xs).zs bs (lfK p)).1.getD i 0) (p ^ lfK p) (lfB (p ^ lfK p)) = slR p n xs bs i) := fun _ => rfl
  have US : Hid (∀ j, j < n → ∀ u, (slZ p n xs bs j ++ List.replicate (n - j) ((0, 0) : Int × Int)).set j u = (slZ p n xs bs j ++ [u]) ++ List.replicate (n - (j + 1)) ((0, 0) : Int × Int)) := fun j hj u => up_set (slZ_length _ _ _ _ _) hj u
  have UL : Hid (∀ j, j ≤ n → (slZ p n xs bs j ++ List.replicate (n - j) ((0, 0) : Int × Int)).length = n) := fun j hj => by
    show _ = _; rw [List.length_append, slZ_length, List.length_replicate]; omega
  have B0 : Hid (Below w.heap.size w (w.alloc (.cells #[.int .i64 n, .int .i64 n, .slice a xs.length m] 26))) := (Below.refl _ _).alloc (Nat.le_refl _) _
  have K0 : Hid (Blk3 (w.alloc (.cells #[.int .i64 n, .int .i64 n, .slice a xs.length m] 26)) w.heap.size 26 (.int .i64 n) (.int .i64 n) (.slice a xs.length m)) := Blk3.at_ _ _ _ _ rfl
  have hmk := makeQx n (by omega)
  generalize irB n n xs bs (slZ p n xs bs n) = ir at IR QI QY
  generalize slQ p n xs bs = RES at QB QI QY ⊢
  generalize (lfS p n xs (ivX n n p xs).zs bs (lfK p)).1 = us at LF LL RE
  generalize slR p n xs bs = sr at QB QY ZS RE
  generalize slZ p n xs bs = sz at IR QY ZS ZL US UL
  generalize lfB (p ^ lfK p) = bd at PB RE
  generalize p ^ lfK p = P at LF PB RE
  generalize ivX n n p xs = MX at IV LF ⊢
  generalize xs.length = L at IV LF IR K0 B0 ⊢
  generalize bs.length = Lb at LF IR ⊢
  clear h hc hs hb hx hnx hbl hnb hn' PK N36
  obtain ⟨z0, z1, z2, -, -, -⟩ := K0.out.all
  go_enter Tryz.func85, Tryz.ntmps85
  go_wp2_with fail
  refine (IV.out _ B0.out).mono ?_
  rintro e w1 ⟨v, rfl, own, hb1⟩
  obtain ⟨q, cap, rfl, hq, -⟩ := own.form
  have CQ := Lib.hid own.celA
  have Q2 := Lib.hid (hq.below ((Below.refl _ _).alloc (Nat.le_refl _) (.cells #[.int .i64 MX.r, .int .i64 MX.c, .slice q MX.zs.length cap] 26)))
  have K2 := Lib.hid ((K0.out.step hb1).old (.cells #[.int .i64 MX.r, .int .i64 MX.c, .slice q MX.zs.length cap] 26))
  have A2 : Hid (Blk3 (w1.alloc (.cells #[.int .i64 MX.r, .int .i64 MX.c, .slice q MX.zs.length cap] 26)) w1.heap.size 26 (.int .i64 MX.r) (.int .i64 MX.c) (.slice q MX.zs.length cap)) := Blk3.at_ _ _ _ _ rfl
  have Bx := B0.out.trans (hb1.mono B0.out.size)
  have B2 := Lib.hid (Bx.alloc Bx.size (.cells #[.int .i64 MX.r, .int .i64 MX.c, .slice q MX.zs.length cap] 26))
  clear hb1 Bx hq own K0 B0 IV z0 z1 z2
  go_upto_region 2 with fail
  generalize w1.alloc (.cells #[.int .i64 MX.r, .int .i64 MX.c, .slice q MX.zs.length cap] 26) = W at B2 Q2 A2 K2 ⊢
  obtain ⟨b8, hb8⟩ : ∃ b8, w1.heap.size = b8 := ⟨_, rfl⟩
  rw [hb8] at A2 ⊢
  clear hb8
  rcases Bool.eq_false_or_eq_true MX.ok with hk | hk
  rotate_left
  · rw [hk]
    go_wp2_with fail
    go_ret2
    exact ⟨_, _, rfl, B2.out, .inl ⟨hk, rfl, rfl⟩⟩
  have HKM := Lib.hid hk
  obtain ⟨e1, e2, hlf⟩ := LF.out hk q cap W B2.out Q2.out CQ.out
  have LFi := Lib.hid hlf
  rw [hk]
  rw [e1, e2] at A2
  obtain ⟨z0, z1, z2, -, -, -⟩ := K2.out.all
  obtain ⟨y0, y1, y2, -, -, -⟩ := A2.out.all
  clear hlf LF Q2 CQ hk
  go_wp2_with fail
  refine LFi.out.mono ?_
  rintro e w3 ⟨v, rfl, own, hb3⟩
  obtain ⟨qu, cu, rfl, hu, -⟩ := own.form
  rw [LL.out]
  have K3 := Lib.hid (K2.out.step hb3)
  have B3 := Lib.hid (B2.out.trans (hb3.mono B2.out.size))
  have UR := Lib.hid hu
  clear z0 z1 z2 y0 y1 y2 hb3 own hu K2 A2 B2 LFi
  go_wp2_with fail
  refine (PB.out _).mono ?_
  rintro e w4 ⟨rfl, rfl⟩
  have g0 := B3.out.size
  have g1 := K3.out.lt
  have Q1 : Hid (QsX (w3.alloc (.cells (madeCells #[.int .i64 0, .int .i64 0] (n * 2)) 40)) w3.heap.size (sz 0 ++ List.replicate (n - 0) ((0, 0) : Int × Int))) := by
    have e0 : sz 0 = [] := List.eq_nil_of_length_eq_zero (ZL.out 0)
    refine Lib.hid ?_
    rw [e0]
    exact QsX.made n rfl
  have K4 := Lib.hid (K3.out.old (.cells (madeCells #[.int .i64 0, .int .i64 0] (n * 2)) 40))
  have B4 := Lib.hid (B3.out.alloc B3.out.size (.cells (madeCells #[.int .i64 0, .int .i64 0] (n * 2)) 40))
  have UR4 := Lib.hid (UR.out.below ((Below.refl _ _).alloc (Nat.le_refl _) (.cells (madeCells #[.int .i64 0, .int .i64 0] (n * 2)) 40)))
  go_upto_region 7 with fail
  obtain ⟨g, hg⟩ : ∃ g, w3.heap.size = g := ⟨_, rfl⟩
  have HG := Lib.hid hg
  rw [hg] at Q1 g0 g1 ⊢
  generalize w3.alloc (.cells (madeCells #[.int .i64 0, .int .i64 0] (n * 2)) 40) = W4 at Q1 K4 B4 UR4 ⊢
  clear hg hmk K3 B3 PB
  have SRC : Hid (∀ wx, W4.grownBy wx (some g) → Rd wx qu us) := fun wx hgx => by
    rcases Nat.eq_zero_or_pos us.length with h0 | h0
    · rw [List.eq_nil_of_length_eq_zero h0]; exact Rd.nil _ _
    exact UR4.out.one hgx (fun b o e e2 => by
      subst e2
      obtain ⟨b', o', e', hc'⟩ := UR.out 0 h0
      rw [e] at e'
      injection e' with e'
      injection e' with e' _
      subst e'
      have := World.block_lt_of_cell? w3 _ hc'
      simp at this
      have := HG.out
      omega)
  go_wp2_with fail
  go_loopw [14, 15, 16, 17, 44] (fun _ _ _ _ v44 wr => ∃ i : Nat, v44 = .int .i64 i ∧ i ≤ n ∧ (∀ j, j < i → (sr j).2.2 = true) ∧ QsX wr g (sz i ++ List.replicate (n - i) ((0, 0) : Int × Int)) ∧ Blk3 wr w.heap.size 26 (.int .i64 n) (.int .i64 n) (.slice a L m) ∧ W4.grownBy wr (some g) ∧ Below w.heap.size w wr) (fun _ _ _ _ v44 _ => n - (intOf v44).toNat)
  case atStart => exact ⟨0, rfl, by omega, fun j hj => by omega, Q1.out, K4.out, World.grownBy.refl _ _, B4.out⟩
  case round =>
    clear Q1 K4 B4 UR4
    obtain ⟨i, rfl, hi, hk, hQ, hK, hG, hB⟩ := hrel
    have HK := Lib.hid hk
    have Q := Lib.hid hQ
    have K := Lib.hid hK
    have G := Lib.hid hG
    have B := Lib.hid hB
    clear hk hQ hK hG hB
    by_cases hlt : i < n
    · obtain ⟨b1, o1, rfl, hc1⟩ := SRC.out _ G.out i (by rw [LL.out]; exact hlt)
      have RFi := Lib.hid (RF.out (us.getD i 0) P bd)
      rw [RE.out] at RFi
      have SU := Lib.hid (ZS.out i)
      have NBi := Lib.hid (QB.out i hlt)
      have HK1 : Hid ((sr i).2.2 = true → ∀ j, j < i + 1 → (sr j).2.2 = true) := fun h j hj => by
        rcases Nat.lt_or_ge j i with h3 | h3
        · exact HK.out j h3
        · obtain rfl : j = i := by omega
          exact h
      generalize us.getD i 0 = u at hc1 RFi
      obtain ⟨mn, hmn⟩ : ∃ x, (sr i).1 = x := ⟨_, rfl⟩
      obtain ⟨md, hmd⟩ : ∃ x, (sr i).2.1 = x := ⟨_, rfl⟩
      obtain ⟨fk, hfk⟩ : ∃ x, (sr i).2.2 = x := ⟨_, rfl⟩
      rw [hmn, hmd] at SU RFi
      rw [hfk] at RFi NBi HK1
      clear hmn hmd hfk
      go_wp2_with fail
      refine (RFi.out _).mono ?_
      rintro e w5 ⟨rfl, hb5⟩
      have Q := Lib.hid ((Q.out.keep hb5 Q.out.lt).old (.cells #[.int .i64 mn, .int .i64 md] 40))
      have K := Lib.hid ((K.out.step hb5).old (.cells #[.int .i64 mn, .int .i64 md] 40))
      have G := Lib.hid ((G.out.trans (grown_of_below hb5 (some g))).trans (grown_of_below ((Below.refl _ _).alloc (Nat.le_refl _) (.cells #[.int .i64 mn, .int .i64 md] 40)) (some g)))
      have Bx := B.out.trans (hb5.mono B.out.size)
      have B := Lib.hid (Bx.alloc Bx.size (.cells #[.int .i64 mn, .int .i64 md] 40))
      have R5 : Hid (Blk2 (w5.alloc (.cells #[.int .i64 mn, .int .i64 md] 40)) w5.heap.size 40 (.int .i64 mn) (.int .i64 md)) := Blk2.at_ _ _ _ rfl
      clear hb5 Bx hc1
      go_upto_region 11 with fail
      obtain ⟨b9, hb9⟩ : ∃ b, w5.heap.size = b := ⟨_, rfl⟩
      rw [hb9] at R5 ⊢
      generalize w5.alloc (.cells #[.int .i64 mn, .int .i64 md] 40) = W5 at Q K G B R5 ⊢
      clear hb9
      cases fk with
      | false =>
        have V : Hid (RES = ([], false)) := NBi.out (by first | rfl | trivial)
        go_wp2_with fail
        rw [V.out]
        go_ret2
        exact ⟨_, _, rfl, B.out, .inr ⟨HKM.out, OwnR.nil _ _, .inr ⟨rfl, _, rfl⟩⟩⟩
      | true =>
        have HK2 : Hid (∀ j, j < i + 1 → (sr j).2.2 = true) := HK1.out (by first | rfl | trivial)
        have QL := UL.out i (by omega)
        obtain ⟨c0, c1⟩ := Q.out.qs.cells (q := i) (by rw [QL]; exact hlt)
        have f0 := Q.out.qs.free (i * 2)
        have f1 := Q.out.qs.free (i * 2 + 1)
        have HL := Lib.hid QL
        obtain ⟨r0, r1, -, -⟩ := R5.out.all
        clear QL HK1 NBi
        go_wp2_with fail
        go_roundw
        case rel =>
          refine ⟨i + 1, by go_num, by omega, HK2.out, ?_, (K.out.far (by show w.heap.size ≠ g; omega) _).far (by show w.heap.size ≠ g; omega) _, grown_set_one (a := ⟨g, i * 2 + 1, none⟩) (grown_set_one (a := ⟨g, i * 2, none⟩) G.out rfl _) rfl _, (B.out.setCell (by show w.heap.size ≤ g; omega) _).setCell (by show w.heap.size ≤ g; omega) _⟩
          have := Q.out.set (q := i) (by rw [HL.out]; exact hlt) (mn, md)
          rw [US.out i hlt, ← SU.out] at this
          exact this
        case measure => simp [intOf]; omega
    · obtain rfl : i = n := by omega
      have QE : QsX wr g (sz i) := by
        have := Q.out
        rw [Nat.sub_self, List.replicate_zero, List.append_nil] at this
        exact this
      have QE := Lib.hid QE
      have IRi := Lib.hid (IR.out (some ⟨g, 0, none⟩) i wr B.out QE.out.qs.rd)
      have NY : Hid (ir = true → RES = (sz i, true)) := fun h => QY.out HK.out h
      obtain ⟨z0, z1, z2, -, -, -⟩ := K.out.all
      clear Q IR QY hlt
      go_wp2_with fail
      refine IRi.out.mono ?_
      rintro e w6 ⟨rfl, hb6⟩
      have OE := (QE.out.keep hb6 QE.out.lt).own g0 (by rw [ZL.out]; omega)
      rw [ZL.out] at OE
      have OE := Lib.hid OE
      have B6 := Lib.hid (B.out.trans (hb6.mono B.out.size))
      clear hb6 z0 z1 z2
      cases ir with
      | false =>
        have V : Hid (RES = ([], false)) := QI.out (by first | rfl | trivial)
        go_wp2_with fail
        rw [V.out]
        go_ret2
        exact ⟨_, _, rfl, B6.out, .inr ⟨HKM.out, OwnR.nil _ _, .inr ⟨rfl, _, rfl⟩⟩⟩
      | true =>
        have V : Hid (RES = (sz i, true)) := NY.out (by first | rfl | trivial)
        go_wp2_with fail
        rw [V.out]
        go_ret2
        exact ⟨_, _, rfl, B6.out, .inr ⟨HKM.out, OE.out, .inl ⟨rfl, rfl⟩⟩⟩
end Go.Proofs.YtcapddcmnjeloaaGreatDoor
end

section
/-
  A range over an iterator that keeps what it knows in cells of its own, where the loop's body keeps blocks of its own, too: a set of blocks, laid since the loop began, that the iterator leaves alone. No function of the program is named.
-/
namespace Go.Proofs.YtcapddcmnjeloaaGreatDoor
open Go.RowKit
def AbY {β : Type} (B : Nat) (J : β → (Nat → Prop) → World → Prop) : Prop := ∀ s M W W' row, J s M W → W.grownBy W' row → (∀ r, row = some r → B ≤ r ∧ ¬ M r) → J s M W'
structure KpY (B : Nat) (M M' : Nat → Prop) (W W' : World) : Prop where
  size : W.heap.size ≤ W'.heap.size
  block : ∀ k, B ≤ k → k < W.heap.size → ¬ M k → W'.heap[k]? = W.heap[k]?
  own : ∀ k, M' k → (M k ∨ W.heap.size ≤ k) ∧ k < W'.heap.size
theorem KpY.at_ {B k : Nat} {M M' : Nat → Prop} {W W' : World} {o : Obj} (h : KpY B M M' W W') (hk : B ≤ k) (hm : ¬ M k) (e : W.heap[k]? = some o) : W'.heap[k]? = some o := (h.block k hk (Array.getElem?_eq_some_iff.mp e).1 hm).trans e
def SeqY {α : Type} (F : Fence) (n : Nat) (P : Program) (g : Nat) (encs : α → Array Value) (S Sp : List α → Prop) (Nx : List α → α → Prop) : Prop :=
  ∀ (l : Nat) (J Jx : List α → (Nat → Prop) → World → Prop) (W : World), AbY W.heap.size J → (∀ s M W1, J s M W1 → ∀ k, M k → k < W1.heap.size) →
    (∀ pre x M W1, J pre M W1 → Nx pre x → YieldAt F (n - 1) P l (encs x) W1 fun e W' => (e = .returned (.bool true) ∧ ∃ M', J (pre ++ [x]) M' W' ∧ KpY W.heap.size M M' W1 W') ∨ (e = .returned (.bool false) ∧ ∃ M', Jx (pre ++ [x]) M' W')) →
    J [] (fun _ => False) W → CallsIn F n P g #[.func (.yield l) #[] #[]] W fun e W' => (∃ v, e = .returned v) ∧ ((∃ xs M, S xs ∧ J xs M W') ∨ (∃ pre M, Sp pre ∧ Jx pre M W'))
def bodyY {α : Type} (B : Nat) (M : Nat → Prop) (I : List α → (Nat → Prop) → World → Prop) (Ix : Code → List α → (Nat → Prop) → World → Prop) (xs : List α) (W : World) : Exit → Act → World → Prop
  | .normal, _, W' => ∃ M', KpY B M M' W W' ∧ I xs M' W'
  | .ret, _, W' => ∃ M', KpY B M M' W W' ∧ Ix .ret xs M' W'
  | .exit id, _, W' => ∃ M', KpY B M M' W W' ∧ Ix (.exit id) xs M' W'
  | .goto t, _, W' => ∃ M', KpY B M M' W W' ∧ Ix (.goto t) xs M' W'
  | _, _, _ => False
theorem AbY.put {β : Type} {B l : Nat} {J : β → (Nat → Prop) → World → Prop} (h : AbY B J) {s : β} {M : Nat → Prop} {W : World} (hs : J s M W) (hl : B ≤ l) (hm : ¬ M l) (o : Obj) : J s M (W.putObj l o) :=
  h s M W _ (some l) hs (grownBy_putObj' W l o) (fun r e => by cases e; exact ⟨hl, hm⟩)
theorem AbY.old {β : Type} {B : Nat} {J : β → (Nat → Prop) → World → Prop} (h : AbY B J) {s : β} {M : Nat → Prop} {W : World} (hs : J s M W) (o : Obj) : J s M (W.alloc o) :=
  h s M W _ none hs (World.grownBy_alloc W o none) (fun r e => by cases e)
def recY (fn : Nat) (a : Act) (ps : Array Tmp) (assign body : Code) (D : Nat) (st : LoopState) (pe : Option Code) : Loop := { state := st, pending := pe, fn, tmps := a.tmps, params := ps, assign, body, defers := D }
structure betY {α : Type} (D : Nat) (R : Loop) (I : List α → (Nat → Prop) → World → Prop) (pre : List α) (M : Nat → Prop) (W : World) : Prop where
  inv : I pre M W
  rec_ : W.heap[D + 1]? = some (.loop R)
  defd : W.heap[D]? = some (.deferred (some []))
  far : ∀ k, M k → D + 2 ≤ k ∧ k < W.heap.size
theorem betY.ab {α : Type} {D : Nat} {R : Loop} {I : List α → (Nat → Prop) → World → Prop} (h : AbY D I) : AbY (D + 2) (betY D R I) := fun s M A B row hs hg hr =>
  ⟨h s M A B row hs.inv hg (fun r e => by have := hr r e; exact ⟨by omega, this.2⟩), (hg.block _ (Array.getElem?_eq_some_iff.mp hs.rec_).1 (fun e => by have := hr _ e.symm; omega)).trans hs.rec_, (hg.block _ (Array.getElem?_eq_some_iff.mp hs.defd).1 (fun e => by have := hr _ e.symm; omega)).trans hs.defd, fun k hk => ⟨(hs.far k hk).1, Nat.lt_of_lt_of_le (hs.far k hk).2 hg.size⟩⟩
theorem betY.put {α : Type} {D : Nat} {R R' : Loop} {I' : List α → (Nat → Prop) → World → Prop} {xs : List α} {M' : Nat → Prop} {W : World} (hI : AbY D I') (h1 : W.heap[D + 1]? = some (.loop R)) (h2 : W.heap[D]? = some (.deferred (some []))) (h3 : ∀ k, M' k → D + 2 ≤ k ∧ k < W.heap.size) (h' : I' xs M' W) : betY D R' I' xs M' (W.putObj (D + 1) (.loop R')) :=
  ⟨hI.put h' (by omega) (fun hm => by have := h3 _ hm; omega) _, World.putObj_heap_same (Array.getElem?_eq_some_iff.mp h1).1, (World.putObj_heap_other (by omega)).trans h2, fun k hk => by have := h3 k hk; exact ⟨this.1, by simp [World.putObj]; exact this.2⟩⟩
theorem wpIn_rangeY {F : Fence} {n : Nat} {P : Program} {α : Type} {g : Operand} {ps : Array Tmp} {assign body : Code} {Q : Exit → Act → World → Prop} {a : Act} {w : World}
    (hro : F.round = none) (h1 : 1 ≤ n) {gf : Nat} (hg : a.eval g = .func (.func gf) #[] #[]) (hFg : F.fn gf) (eg : ∀ args w, (callFunc gf args).run P w = .ok (.enter gf args) w)
    {encs : α → Array Value} {S Sp : List α → Prop} {Nx : List α → α → Prop} (hseq : SeqY F (n - 1) P gf encs S Sp Nx) (hps : ∀ x, (encs x).size = ps.size)
    (I : List α → (Nat → Prop) → World → Prop) (Ix : Code → List α → (Nat → Prop) → World → Prop) (hI : AbY w.heap.size I) (hIx : ∀ c, AbY w.heap.size (Ix c)) (h0 : I [] (fun _ => False) w) (a₁ : α → Act)
    (hassign : ∀ (l : Nat) (x : α) (W : World) (K : Act → World → Prop), K (a₁ x) W →
      assign.wpIn (F.inRound l) (n - 1 - 1) P (Exit.then K (fun _ _ _ => False)) { tmps := (ps.zip (encs x)).foldl (fun t (p, v) => t.setIfInBounds p v) a.tmps, defers := [] } W)
    (hbody : ∀ (l : Nat) (pre : List α) (x : α) (M : Nat → Prop) (W : World), I pre M W → (∀ k, M k → w.heap.size + 2 ≤ k ∧ k < W.heap.size) → Nx pre x → w.heap.size + 2 ≤ W.heap.size → body.wpIn (F.inRound l) (n - 1 - 1) P (bodyY w.heap.size M I Ix (pre ++ [x]) W) (a₁ x) W)
    (hdone : ∀ (xs : List α) (M : Nat → Prop) (W : World), S xs → I xs M W → (∀ k, M k → w.heap.size + 2 ≤ k ∧ k < W.heap.size) → W.heap[w.heap.size]? = some (.deferred (some [])) → Q .normal { a with defers := { target := .collected w.heap.size, args := #[] } :: a.defers } W)
    (hstop : ∀ (c : Code) (pre : List α) (M : Nat → Prop) (W : World), Sp pre → Ix c pre M W → (∀ k, M k → w.heap.size + 2 ≤ k ∧ k < W.heap.size) → W.heap[w.heap.size]? = some (.deferred (some [])) → c.wpIn F n P Q { a with defers := { target := .collected w.heap.size, args := #[] } :: a.defers } W) :
    (Code.rangeFunc g ps assign body).wpIn F n P Q a w := by
  refine wpIn_rangeFunc fun fn hfn => ?_
  rw [hro]
  generalize hD : w.heap.size = D at hI hIx hbody hdone hstop
  obtain ⟨R, hR⟩ : ∃ R : LoopState → Option Code → Loop, R = recY fn a ps assign body D := ⟨_, rfl⟩
  have sz : ((w.alloc (.deferred (some []))).alloc (.loop (R .ready none))).heap.size = D + 2 := by simp [hD]
  have st : betY D (R .ready none) I [] (fun _ => False) ((w.alloc (.deferred (some []))).alloc (.loop (R .ready none))) := by
    refine ⟨hI.old (hI.old h0 _) _, ?_, ?_, fun k hk => hk.elim⟩
    · have := World.alloc_heap_new (w.alloc (.deferred (some []))) (.loop (R .ready none))
      rwa [World.size_alloc, hD] at this
    · rw [← hD]
      exact (Below.heap_alloc _ _ _ (by simp)).trans (World.alloc_heap_new w _)
  refine ⟨D + 1, [{ target := .collected D, args := #[] }], (w.alloc (.deferred (some []))).alloc (.loop (R .ready none)), { target := .fn (.func gf) #[], args := #[.func (.yield (D + 1)) #[] #[]] }, (w.alloc (.deferred (some []))).alloc (.loop (R .ready none)), gf, #[.func (.yield (D + 1)) #[] #[]], (w.alloc (.deferred (some []))).alloc (.loop (R .ready none)), ?_, ?_, ?_, ?_, fun _ => h1, ?_⟩
  · rw [hR, ← hD]; exact run_enterLoop_outer _ _ _ _ _
  · simp only [resolve, hg]
    simp [go_sem]
  · intro f' hf'
    simp [Target.leads] at hf'
    subst hf'
    exact hFg
  · simp [invoke, go_sem, eg]
  · have ab2 : ∀ {I' : List α → (Nat → Prop) → World → Prop} {R' : Loop}, AbY D I' → AbY ((w.alloc (.deferred (some []))).alloc (.loop (R .ready none))).heap.size (betY D R' I') := fun h => by rw [sz]; exact betY.ab h
    refine (hseq (D + 1) (betY D (R .ready none) I) (fun pre M W => ∃ c, betY D (R .done (some c)) (Ix c) pre M W) _ (ab2 hI) (fun s M W1 h k hk => (h.far k hk).2) ?_ st).mono ?_
    · intro pre x M W hJ hlen
      have hy := run_yield (P := P) (args := encs x) hJ.rec_ (by rw [hR]; exact hps x)
      rw [hR] at hy
      refine ⟨fn, _, assign, body, hy, roundIn_of_wpIn hfn (hassign _ x W _ ⟨_, run_beginRound hJ.rec_ (by rw [hR]; rfl), ?_⟩)⟩
      have hB : betY D { R .ready none with state := .busy } I pre M (W.putObj (D + 1) (.loop { R .ready none with state := .busy })) := betY.put hI hJ.rec_ hJ.defd hJ.far hJ.inv
      have zW : (W.putObj (D + 1) (.loop { R .ready none with state := .busy })).heap.size = W.heap.size := by simp [World.putObj]
      refine wpIn_mono (hbody _ pre x M _ hB.inv hB.far hlen (by rw [zW]; have := (Array.getElem?_eq_some_iff.mp hJ.rec_).1; omega)) ?_
      have fin : ∀ (jump : Option Code) (I' : List α → (Nat → Prop) → World → Prop) (M' : Nat → Prop) (W3 : World), AbY D I' → KpY D M M' (W.putObj (D + 1) (.loop { R .ready none with state := .busy })) W3 → I' (pre ++ [x]) M' W3 →
          (Instr.endRound (D + 1) jump).run P W3 = .ok (.bool jump.isNone) (W3.putObj (D + 1) (.loop (R (if jump.isNone then .ready else .done) jump))) ∧ betY D (R (if jump.isNone then .ready else .done) jump) I' (pre ++ [x]) M' (W3.putObj (D + 1) (.loop (R (if jump.isNone then .ready else .done) jump))) ∧
          KpY (D + 2) M M' W (W3.putObj (D + 1) (.loop (R (if jump.isNone then .ready else .done) jump))) := fun jump I' M' W3 hab hk hi => by
        have r1 : W3.heap[D + 1]? = some (.loop { R .ready none with state := .busy }) := hk.at_ (by omega) (fun hm => by have := hB.far _ hm; omega) hB.rec_
        have r2 : W3.heap[D]? = some (.deferred (some [])) := hk.at_ (Nat.le_refl _) (fun hm => by have := hB.far _ hm; omega) hB.defd
        have r3 : ∀ k, M' k → D + 2 ≤ k ∧ k < W3.heap.size := fun k hm => by
          obtain ⟨h1, h2⟩ := hk.own k hm
          rcases h1 with h1 | h1
          · exact ⟨(hB.far k h1).1, h2⟩
          · have := (Array.getElem?_eq_some_iff.mp hB.rec_).1
            exact ⟨by omega, h2⟩
        have hr := run_endRound (P := P) jump r1
        rw [hR] at hr
        have z3 : (W3.putObj (D + 1) (.loop (R (if jump.isNone then .ready else .done) jump))).heap.size = W3.heap.size := by simp [World.putObj]
        refine ⟨by rw [hR]; exact hr, betY.put hab r1 r2 r3 hi, ⟨?_, fun k h1 h2 h3 => ?_, fun k hm => ?_⟩⟩
        · rw [z3, ← zW]; exact hk.size
        · exact (World.putObj_heap_other (by omega)).trans ((hk.block k (by omega) (by rw [zW]; exact h2) h3).trans (World.putObj_heap_other (by omega)))
        · rw [z3, ← zW]; exact hk.own k hm
      rintro e a3 W3 hp
      have jumped : ∀ c : Code, (∃ M', KpY D M M' (W.putObj (D + 1) (.loop { R .ready none with state := .busy })) W3 ∧ Ix c (pre ++ [x]) M' W3) → ∃ v W4, (Instr.endRound (D + 1) (some c)).run P W3 = .ok v W4 ∧ ((Ending.returned v = .returned (.bool true) ∧ ∃ M', betY D (R .ready none) I (pre ++ [x]) M' W4 ∧ KpY ((w.alloc (.deferred (some []))).alloc (.loop (R .ready none))).heap.size M M' W W4) ∨ (Ending.returned v = .returned (.bool false) ∧ ∃ M' c, betY D (R .done (some c)) (Ix c) (pre ++ [x]) M' W4)) := fun c ⟨M', hk, hi⟩ => by
        obtain ⟨e1, e2, -⟩ := fin (some c) (Ix c) M' W3 (hIx c) hk hi
        exact ⟨_, _, e1, .inr ⟨rfl, M', c, e2⟩⟩
      cases e with
      | normal =>
        obtain ⟨M', h1, h2⟩ := hp
        obtain ⟨e1, e2, e3⟩ := fin none I M' W3 hI h1 h2
        exact ⟨_, _, e1, .inl ⟨rfl, M', e2, by rw [sz]; exact e3⟩⟩
      | ret => exact jumped _ hp
      | exit id => exact jumped _ hp
      | goto t => exact jumped _ hp
      | panic ch => exact hp.elim
      | outgrown => exact hp.elim
    · rintro e W2 ⟨⟨v, rfl⟩, ⟨xs, M, hS, hJ⟩ | ⟨pre, M, hSp, c, hJ⟩⟩
      · have hr := run_endLoop (P := P) hJ.rec_ (by rw [hR]; simp [recY])
        rw [hR] at hr
        have hn : ¬ M (D + 1) := fun hm => by have := hJ.far _ hm; omega
        exact ⟨none, _, hr, hdone xs M _ hS (hI.put hJ.inv (by omega) hn _) (fun k hk => by have := hJ.far k hk; exact ⟨this.1, by simp [World.putObj]; exact this.2⟩) ((World.putObj_heap_other (by omega)).trans hJ.defd)⟩
      · have hr := run_endLoop (P := P) hJ.rec_ (by rw [hR]; simp [recY])
        rw [hR] at hr
        have hn : ¬ M (D + 1) := fun hm => by have := hJ.far _ hm; omega
        exact ⟨some c, _, hr, hstop c pre M _ hSp ((hIx c).put hJ.inv (by omega) hn _) (fun k hk => by have := hJ.far k hk; exact ⟨this.1, by simp [World.putObj]; exact this.2⟩) ((World.putObj_heap_other (by omega)).trans hJ.defd)⟩
end Go.Proofs.YtcapddcmnjeloaaGreatDoor
end

section
/-
  Chapter 8, in the program: the iterator over primes, for loops whose bodies keep blocks of their own.
-/
namespace Go.Proofs.YtcapddcmnjeloaaGreatDoor
set_option maxRecDepth 100000
open Go.RowKit Go.Shelf
attribute [local go_sem] Oper.semAt_some
structure ItSY (J : List PrmQ → (Nat → Prop) → World → Prop) (B m b : Nat) (q : Option Addr) (qc : Nat) (pre : List PrmQ) (M : Nat → Prop) (wr : World) : Prop where
  own : OwnQ B wr (.slice q (prmTo m).length qc) (prmTo m)
  box : Blk1 wr b 3 (.int .i64 m)
  ge : B ≤ b
  ne : (Value.slice q (prmTo m).length qc).ownBlock ≠ some b
  pre_ : prmV pre = prmTo m
  j : J pre M wr
  sz : B ≤ wr.heap.size
  far : ¬ M b ∧ ∀ k, (Value.slice q (prmTo m).length qc).ownBlock = some k → ¬ M k
theorem ItSY.kept {J : List PrmQ → (Nat → Prop) → World → Prop} {B m b : Nat} {q : Option Addr} {qc : Nat} {pre : List PrmQ} {M M' : Nat → Prop} {wr w' : World} (h : ItSY J B m b q qc pre M wr) (hk : KpY B M M' wr w') :
    OwnQ B w' (.slice q (prmTo m).length qc) (prmTo m) ∧ Blk1 w' b 3 (.int .i64 m) ∧ B ≤ w'.heap.size ∧ ¬ M' b ∧ ∀ k, (Value.slice q (prmTo m).length qc).ownBlock = some k → ¬ M' k :=
  ⟨h.own.move fun k e => hk.block k (h.own.le e) (h.own.lt e) (h.far.2 k e), hk.at_ h.ge h.far.1 h.box, Nat.le_trans h.sz hk.size, fun hm => (hk.own b hm).1.elim h.far.1 (fun h1 => by have := h.box.lt; omega), fun k e hm => (hk.own k hm).1.elim (h.far.2 k e) (fun h1 => by have := h.own.lt e; omega)⟩
theorem ItSY.next {J : List PrmQ → (Nat → Prop) → World → Prop} {B m : Nat} {v : Value} {q : Option Addr} {qc : Nat} {pre : List PrmQ} {M : Nat → Prop} {wr : World} (hab : AbY B J) (hbd : ∀ s M W1, J s M W1 → ∀ k, M k → k < W1.heap.size) (hv : v = .slice q (prmTo (m + 1)).length qc) (ho : OwnQ B wr v (prmTo (m + 1))) (hp : prmV pre = prmTo (m + 1)) (hj : J pre M wr) (hs : B ≤ wr.heap.size) (hf : ∀ k, v.ownBlock = some k → ¬ M k) (z : Int) (hz : z = ((m + 1 : Nat) : Int)) :
    ItSY J B (m + 1) wr.heap.size q qc pre M (wr.alloc (.cells #[.int .i64 z] 3)) := by
  subst hv hz
  exact ⟨ho.move fun k e => Below.heap_alloc wr _ k (ho.lt e), Blk1.at_ _ _ rfl, hs, fun e => by have := ho.lt e; omega, hp, hab.old hj _, by simp; omega, fun hm => by have := hbd _ _ _ hj _ hm; omega, hf⟩
set_option maxHeartbeats 4000000 in
theorem seqPrimesY (n : Nat) (hn : 1 ≤ n) : SeqY Fence.wide n Tryz.prog 103 (fun x : PrmQ => #[Value.int .i64 (x.1 : Int)]) (fun ys => prmV ys = prmTo 10001) (fun pre => ∃ (ini : List PrmQ) (x : PrmQ), pre = ini ++ [x] ∧ prmV ini = prmTo x.1) (fun pre x => prmV pre = prmTo x.1) := by
  intro l J Jx W hJ hBd hY h0
  have AJ := Lib.hid hJ
  have BJ := Lib.hid hBd
  have YY := Lib.hid hY
  clear hJ hBd hY
  have o0 : OwnQ W.heap.size (W.alloc (.cells #[] 3)) (.slice (some ⟨W.heap.size, 0, none⟩) 0 0) [] := OwnQ.none_ (Nat.le_refl _) ⟨Nat.zero_le _, [], rfl, heap_alloc_new W _⟩
  have S0 : Hid (ItSY J W.heap.size 2 (W.heap.size + 1) (some ⟨W.heap.size, 0, none⟩) 0 [] (fun _ => False) ((W.alloc (.cells #[] 3)).alloc (.cells #[.int .i64 2] 3))) := by
    refine ⟨?_, Blk1.at_ _ _ (by simp), by omega, by rw [prmTo_two]; simp [Value.ownBlock], by rw [prmTo_two]; rfl, AJ.out.old (AJ.out.old h0 _) _, by simp; omega, fun h => h, fun _ _ h => h⟩
    rw [prmTo_two]
    exact o0.move fun k e => Below.heap_alloc _ _ k (o0.lt e)
  clear o0
  refine callsIn_of_wp Tryz.func103 rfl trivial ?_ rfl
  simp only [Tryz.ntmps103, List.size_toArray, List.length_cons, List.length_nil, Nat.reduceAdd, Nat.reduceSub, Array.replicate_succ, Array.replicate_zero, List.push_toArray, List.append_toArray, List.nil_append, List.cons_append]
  gi_wp2
  gi_loopw [2, 3] (fun v2 v3 wr => ∃ (m b : Nat) (q : Option Addr) (qc : Nat) (pre : List PrmQ) (M : Nat → Prop), v2 = .slice q (prmTo m).length qc ∧ v3 = .pointer (some ⟨b, 0, none⟩) ∧ 2 ≤ m ∧ m ≤ 10001 ∧ ItSY J W.heap.size m b q qc pre M wr) (fun _ v3 wr => leftX wr v3)
  case atStart => exact ⟨2, _, _, _, [], fun _ => False, by rw [prmTo_two]; rfl, rfl, by omega, by omega, S0.out⟩
  case round =>
    clear S0 h0
    obtain ⟨m, b, q, qc, pre, M, rfl, rfl, hm1, hm2, hS⟩ := hrel
    have S := Lib.hid hS
    have hc := hS.box.cell0
    have hLX := Lib.hid (leftX_at hc)
    have hL := prmTo_length m
    clear hS
    by_cases hlt : m ≤ 10000
    · have hcon := Lib.hid (iContains m b qc (prmTo m).length q (prmTo m) wr (S.out.own.own (by omega)).rdq rfl hc (by omega) (fun k hk => prmTo_two_le hk) (by omega) (!prmB (m : Int)) (prm_test hm1 hlt))
      have NX : Hid (∀ (v : Value) (q' : Option Addr) (qc' : Nat) (pre' : List PrmQ) (M' : Nat → Prop) (w' : World), v = .slice q' (prmTo (m + 1)).length qc' → OwnQ W.heap.size w' v (prmTo (m + 1)) → prmV pre' = prmTo (m + 1) → J pre' M' w' → W.heap.size ≤ w'.heap.size → (∀ k, v.ownBlock = some k → ¬ M' k) → ∀ z : Int, z = ((m + 1 : Nat) : Int) → ItSY J W.heap.size (m + 1) w'.heap.size q' qc' pre' M' (w'.alloc (.cells #[.int .i64 z] 3))) := fun v q' qc' pre' M' w' hv ho hp hj hs hf z hz => ItSY.next AJ.out BJ.out hv ho hp hj hs hf z hz
      have LM : Hid (10001 - (m + 1) < 10001 - m) := by show _ < _; omega
      rcases Bool.eq_false_or_eq_true (prmB (m : Int)) with hp | hp
      · have PS : Hid (prmTo (m + 1) = prmTo m ++ [(m : Int)]) := by show _ = _; rw [prmTo_succ, if_pos hp]
        have PP : Hid (m < 10001 ∧ prmB (m : Int) = true) := ⟨by omega, hp⟩
        rw [hp] at hcon
        clear hp
        obtain ⟨fn, tmps, assign, body, hy, hR⟩ := YY.out pre ⟨m, PP.out⟩ M wr S.out.j S.out.pre_
        dsimp only at hy
        gi_wp2_with (refine ⟨trivial, ?_⟩; gi_at_call 104; refine (callsIn_wide.2 hcon.out).mono ?_; rintro e w' ⟨rfl, rfl⟩)
        refine hR.mono ?_
        rintro e W3 (⟨rfl, M3, hJ3, hk3⟩ | ⟨rfl, M3, hJx3⟩)
        · obtain ⟨o3, b3, s3, f3⟩ := S.out.kept hk3
          have F3 := Lib.hid f3
          have D3 := Lib.hid (fun k => BJ.out _ _ _ hJ3 k)
          have O3 := Lib.hid o3
          have N3 := Lib.hid S.out.ne
          have B3 := Lib.hid b3
          have J3 := Lib.hid hJ3
          have hc3 := b3.cell0
          have PV : Hid (prmV (pre ++ [⟨m, PP.out⟩]) = prmTo (m + 1)) := by
            show _ = _
            rw [prmV_snoc, S.out.pre_, PS.out]
          clear hk3 o3 b3 f3 hJ3 hR hy
          obtain ⟨fi, hfi, hz0, hz1, hz2⟩ := facts_int
          have HO : Hid ((W3.alloc (.cells #[.int .i64 m] 3)).ownsRow W.heap.size 3 1 (.slice q (prmTo m).length qc) (prmTo m).length ((prmTo m).map (Value.int .i64))) := by
            have h1 := O3.out.keep ((Below.refl _ _).alloc (Nat.le_refl _) (.cells #[.int .i64 m] 3))
            unfold OwnQ at h1
            exact h1
          gi_wp2_with (gi_at_builtin; refine wpListIn_append_own_at _ rfl _ _ 24 rfl W.heap.size 3 fi (.int .i64 0) 1 8 underlying_ints hfi hz0 hz1 hz2 rfl (by decide) _ _ _ rfl HO.out ⟨W3.heap.size, 0, none⟩ 1 1 [.int .i64 m] ?hx ?hl ?hnews ?h1 ?h63 ?hbytes ?hbase ?hnext)
          case hx => rfl
          case hl => rfl
          case hnews => exact cell_one_new _ _ _
          case h1 => intro v hv; simp at hv; subst hv; rfl
          case h63 => unfold maxLen; omega
          case hbytes => omega
          case hbase => simp; omega
          case hnext =>
            rintro v' w7 ho hg7 - hor7
            have O7 : OwnQ W.heap.size w7 v' (prmTo (m + 1)) := by
              unfold OwnQ
              rw [PS.out, List.map_append, List.length_append]
              exact ho
            have b7 : Blk1 w7 b 3 (.int .i64 m) := (hg7.block b (by have := B3.out.lt; simp; omega) (fun e => N3.out e.symm)).trans ((Below.heap_alloc _ _ b B3.out.lt).trans B3.out)
            have s7 := hg7.size
            simp at s7
            have j7 : J (pre ++ [⟨m, PP.out⟩]) M3 w7 := AJ.out _ _ _ _ _ (AJ.out.old J3.out _) hg7 (fun r e => ⟨O3.out.le e, F3.out.2 r e⟩)
            have f7 : ∀ k, v'.ownBlock = some k → ¬ M3 k := fun k hk hm => by
              have := D3.out k hm
              rcases hor7 with e | e
              · exact F3.out.2 k (e.symm.trans hk) hm
              · rw [e] at hk
                injection hk with hk
                omega
            obtain ⟨q', qc', hv'⟩ := O7.form
            have hc7 := b7.cell0
            have N7 := Lib.hid (NX.out v' q' qc' _ M3 w7 hv' O7 PV.out j7 (by omega) f7)
            subst hv'
            clear O7 ho hg7 b7 j7 f7 hor7
            have ez : (m : Int) + 1 = ((m + 1 : Nat) : Int) := by omega
            have N8 := Lib.hid (N7.out ((m : Int) + 1) ez)
            clear ez
            gi_wp2
            go_roundw
            case rel => exact ⟨m + 1, _, q', qc', _, _, rfl, rfl, by omega, by omega, N8.out⟩
            case measure =>
              rw [hLX.out, leftX_at N8.out.box.cell0]
              exact LM.out
        · gi_wp2
          refine bodyPost_ret (results_none rfl _ _ _) rfl ?_
          exact ⟨⟨_, rfl⟩, .inr ⟨_, _, ⟨pre, ⟨m, PP.out⟩, rfl, S.out.pre_⟩, hJx3⟩⟩
      · have PS : Hid (prmTo (m + 1) = prmTo m) := by show _ = _; rw [prmTo_succ, if_neg (by rw [hp]; decide)]
        rw [hp] at hcon
        clear hp
        gi_wp2_with (refine ⟨trivial, ?_⟩; gi_at_call 104; refine (callsIn_wide.2 hcon.out).mono ?_; rintro e w' ⟨rfl, rfl⟩)
        have ez : (m : Int) + 1 = ((m + 1 : Nat) : Int) := by omega
        have N8 := Lib.hid (NX.out (.slice q (prmTo m).length qc) q qc pre M wr (by rw [PS.out]) (by rw [PS.out]; exact S.out.own) (by rw [PS.out]; exact S.out.pre_) S.out.j S.out.sz S.out.far.2 ((m : Int) + 1) ez)
        clear ez
        go_roundw
        case rel => exact ⟨m + 1, _, q, qc, pre, M, by rw [PS.out], rfl, by omega, by omega, N8.out⟩
        case measure =>
          rw [hLX.out, leftX_at N8.out.box.cell0]
          exact LM.out
    · obtain rfl : m = 10001 := by omega
      gi_wp2
      go_end0
      exact ⟨⟨_, rfl⟩, .inl ⟨pre, M, S.out.pre_, S.out.j⟩⟩
end Go.Proofs.YtcapddcmnjeloaaGreatDoor
end

section
/- errors.As at a target that is a pointer to a pointer (after the kit's worked example ToyasAs). -/
namespace Go.Proofs.YtcapddcmnjeloaaGreatDoor
open Go.RowKit Go.Extern.Stop Go.Stop Go.Extern
theorem av_nil (t : Value) (w : World) :
    Calls Tryz.prog 86 #[.nilIface, t] w fun e w' => e = .returned (.bool false) ∧ w' = w := by
  go_enter Tryz.func86, Tryz.ntmps86
  go_wp2
  go_ret
  exact ⟨rfl, rfl⟩
theorem Tryz.av_valueOf27 (t : Addr) (w : World) : (ReflectliteValue.unpack (.iface 106 (.pointer (some t)))).run Tryz.prog w
    = .ok (.agg #[.pointer (some ⟨7, 106, none⟩), .pointer (some ⟨w.heap.size, 0, none⟩), .int .u64 150]) (w.alloc (.cells #[.pointer (some t)] 106)) := by kernel_rfl
theorem Tryz.av_type27 (a : Addr) (w : World) : (ReflectliteValue.methodAny (ReflectliteValue.valueError "reflectlite.Value.Type" 0) (fun t _ _ _ => ReflectliteType.toType t) #[.agg #[.pointer (some ⟨7, 106, none⟩), .pointer (some a), .int .u64 150]]).run Tryz.prog w
    = .ok (.iface 185 (.agg #[.pointer (some ⟨7, 106, none⟩)])) w := by kernel_rfl
theorem Tryz.av_methodKind (h : Value) (w : World) : (Go.method 364 185 (.agg #[h]) "Kind").run Tryz.prog w = .ok (228, h) w := by kernel_rfl
theorem Tryz.av_kind27 (w : World) : ((ReflectliteType.abiMethod fun t => (fun a : Nat => Value.int IntKind.u8 (a : Int)) <$> Rtype.kind t) #[.pointer (some ⟨7, 106, none⟩)]).run Tryz.prog w = .ok (.int .u8 22) w := by kernel_rfl
theorem Tryz.av_kind25 (w : World) : ((ReflectliteType.abiMethod fun t => (fun a : Nat => Value.int IntKind.u8 (a : Int)) <$> Rtype.kind t) #[.pointer (some ⟨7, 104, none⟩)]).run Tryz.prog w = .ok (.int .u8 25) w := by kernel_rfl
theorem rlmV (z : Sem Value) (f : TypeId → Addr → Nat → Nat → Sem Value) (v : Value) :
    ReflectliteValue.method z f #[v] = (do match ← ReflectliteValue.parts v with | none => z | some (t, a, fl) => f t a fl (fl % 32)) := rfl
theorem Tryz.av_parts27 (a : Addr) (w : World) : (ReflectliteValue.parts (.agg #[.pointer (some ⟨7, 106, none⟩), .pointer (some a), .int .u64 150])).run Tryz.prog w = .ok (some (106, a, 150)) w := by kernel_rfl
theorem Tryz.av_isNil27 (a p : Addr) (W : World) (ha : W.cell? a = some (.pointer (some p))) :
    (ReflectliteValue.method (ReflectliteValue.valueError "reflectlite.Value.IsNil" 0) ReflectliteValue.isNil #[.agg #[.pointer (some ⟨7, 106, none⟩), .pointer (some a), .int .u64 150]]).run Tryz.prog W = .ok (.bool false) W := by
  rw [rlmV]
  simp only [Sem.run_bind, Tryz.av_parts27, Result.andThen]
  simp [ReflectliteValue.isNil, loadVar, isAgg, underlying, Tryz.underlying106, ha, Result.andThen]
theorem Tryz.av_methodElem (h : Value) (w : World) : (Go.method 364 185 (.agg #[h]) "Elem").run Tryz.prog w = .ok (239, .agg #[h]) w := by kernel_rfl
theorem Tryz.av_methodImplements (h : Value) (w : World) : (Go.method 364 185 (.agg #[h]) "Implements").run Tryz.prog w = .ok (240, .agg #[h]) w := by kernel_rfl
theorem Tryz.av_methodAssignableTo (h : Value) (w : World) : (Go.method 364 185 (.agg #[h]) "AssignableTo").run Tryz.prog w = .ok (237, .agg #[h]) w := by kernel_rfl
theorem Tryz.av_elem27 (w : World) : (ReflectliteType.method ReflectliteType.elem #[.agg #[.pointer (some ⟨7, 106, none⟩)]]).run Tryz.prog w = .ok (.iface 185 (.agg #[.pointer (some ⟨7, 104, none⟩)])) w := by kernel_rfl
theorem Tryz.av_implements25 (w : World) : (ReflectliteType.relation "Implements" ReflectliteType.implements_ #[.agg #[.pointer (some ⟨7, 104, none⟩)], .iface 185 (.agg #[.pointer (some ⟨7, 93, none⟩)])]).run Tryz.prog w = .ok (.bool true) w := by kernel_rfl
theorem Tryz.av_typeOf25 (v : Value) (w : World) : (ReflectliteType.typeOf #[.iface 104 v]).run Tryz.prog w = .ok (.iface 185 (.agg #[.pointer (some ⟨7, 104, none⟩)])) w := by kernel_rfl
theorem Tryz.av_assignable25 (w : World) : (ReflectliteType.relation "AssignableTo" ReflectliteType.assignableTo #[.agg #[.pointer (some ⟨7, 104, none⟩)], .iface 185 (.agg #[.pointer (some ⟨7, 104, none⟩)])]).run Tryz.prog w = .ok (.bool true) w := by kernel_rfl
theorem Tryz.av_valueOf25 (x0 : Value) (w : World) : (ReflectliteValue.unpack (.iface 104 (.agg #[x0]))).run Tryz.prog w
    = .ok (.agg #[.pointer (some ⟨7, 104, none⟩), .pointer (some ⟨w.heap.size, 0, none⟩), .int .u64 153]) (w.alloc (.cells #[x0] 104)) := by kernel_rfl
theorem Tryz.av_elemOf27 (w : World) : (Rtype.elem? 106).run Tryz.prog w = .ok (some 104) w := by kernel_rfl
theorem Tryz.av_mk25 (p : Addr) (w : World) : (ReflectliteValue.mk 104 p ReflectliteValue.flagAddr).run Tryz.prog w = .ok (.agg #[.pointer (some ⟨7, 104, none⟩), .pointer (some p), .int .u64 409]) w := by kernel_rfl
theorem Tryz.av_elemV27 (a p : Addr) (W : World) (ha : W.cell? a = some (.pointer (some p))) :
    (ReflectliteValue.method (ReflectliteValue.valueError "reflectlite.Value.Elem" 0) ReflectliteValue.elem #[.agg #[.pointer (some ⟨7, 106, none⟩), .pointer (some a), .int .u64 150]]).run Tryz.prog W
      = .ok (.agg #[.pointer (some ⟨7, 104, none⟩), .pointer (some p), .int .u64 409]) W := by
  rw [rlmV]
  simp only [Sem.run_bind, Tryz.av_parts27, Result.andThen]
  simp [ReflectliteValue.elem, loadVar, isAgg, underlying, Tryz.underlying106, ha, Result.andThen, Tryz.av_elemOf27, Tryz.av_mk25]
theorem rlsV (v x : Value) : ReflectliteValue.set #[v, x] = (do
    let (some (dst, a, fl), some (src, b, _)) := (← ReflectliteValue.parts v, ← ReflectliteValue.parts x)
      | unsupported (.noEntry "extern/(internal/reflectlite.Value).Set.zeroValue")
    if fl / ReflectliteValue.flagAddr % 2 == 0 then unsupported (.noEntry "extern/(internal/reflectlite.Value).Set.unaddressable")
    let val ← loadVar src b
    if ← Rtype.directlyAssignable dst src then storeVar dst a val
    else if ← Rtype.implements dst src then
      if (← Rtype.kind src) == 20 then
        match val with
        | .nilIface => unsupported (.noEntry "extern/reflectlite: a nil value of one interface type handed on as a value of another")
        | _ => storeVar dst a val
      else storeVar dst a (.iface src val)
    else panicString ("reflectlite.Set: value of type " ++ (← Rtype.spelt src) ++ " is not assignable to type " ++ (← Rtype.spelt dst))
    pure (.tuple #[])) := rfl
theorem Tryz.av_parts25a (a : Addr) (w : World) : (ReflectliteValue.parts (.agg #[.pointer (some ⟨7, 104, none⟩), .pointer (some a), .int .u64 409])).run Tryz.prog w = .ok (some (104, a, 409)) w := by kernel_rfl
theorem Tryz.av_parts25 (a : Addr) (w : World) : (ReflectliteValue.parts (.agg #[.pointer (some ⟨7, 104, none⟩), .pointer (some a), .int .u64 153])).run Tryz.prog w = .ok (some (104, a, 153)) w := by kernel_rfl
theorem Tryz.av_direct25 (w : World) : (Rtype.directlyAssignable 104 104).run Tryz.prog w = .ok true w := by kernel_rfl
theorem Tryz.av_set25 (ta b : Addr) (x0 o0 : Value) (W : World) (ho0 : x0.oneCell' = true) (hb0 : W.cell? b = some x0) (ht0 : W.cell? ta = some o0) (hf0 : W.frozen? ta = false) :
    (ReflectliteValue.set #[.agg #[.pointer (some ⟨7, 104, none⟩), .pointer (some ta), .int .u64 409], .agg #[.pointer (some ⟨7, 104, none⟩), .pointer (some b), .int .u64 153]]).run Tryz.prog W
      = .ok (.tuple #[]) (W.setCell ta x0) := by
  rw [rlsV]
  simp only [Sem.run_bind, Tryz.av_parts25a, Tryz.av_parts25, Result.andThen]
  simp [ReflectliteValue.flagAddr, loadVar, isAgg, underlying, Tryz.underlying104, loadCells, loadCellsFrom, hb0, Result.andThen, Tryz.av_direct25, storeVar, Value.cells, storeCells, Addr.add]
  rw [run_store Tryz.prog W _ _ _ ho0]
  simp [ht0, hf0]
set_option maxHeartbeats 4000000 in
theorem av_hit (t : Addr) (x0 o0 : Value) (w : World) (ho0 : x0.oneCell' = true) (hg : w.cell? ⟨0, 0, none⟩ = some (.iface 185 (.agg #[.pointer (some ⟨7, 93, none⟩)]))) (ht0 : w.cell? t = some o0) (hf0 : w.frozen? t = false) :
    Calls Tryz.prog 86 #[.iface 104 (.agg #[x0]), .iface 106 (.pointer (some t))] w fun ev w' => ev = .returned (.bool true) ∧ w' = (((((w.alloc (.cells #[.pointer (some t)] 106)).alloc (.cells #[.pointer (some ⟨7, 106, none⟩), .pointer (some ⟨w.heap.size, 0, none⟩), .int .u64 150] 155)).alloc (.cells #[.pointer (some ⟨7, 106, none⟩), .pointer (some ⟨w.heap.size, 0, none⟩), .int .u64 150] 155)).alloc (.cells #[x0] 104)).setCell t x0) := by
  have h6 := @run_callFunc_extern Tryz.prog 138 _ (fun args => ReflectliteValue.unpack (args.getD 0 (.tuple #[]))) Tryz.func138 (by kernel_rfl) (by kernel_rfl) (by kernel_rfl) (by kernel_rfl)
  have h7 := @run_callFunc_extern Tryz.prog 139 _ (ReflectliteValue.methodAny (ReflectliteValue.valueError "reflectlite.Value.Type" 0) (fun t _ _ _ => ReflectliteType.toType t)) Tryz.func139 (by kernel_rfl) (by kernel_rfl) (by kernel_rfl) (by kernel_rfl)
  have h8 := @run_callFunc_extern Tryz.prog 140 _ (ReflectliteValue.method (ReflectliteValue.valueError "reflectlite.Value.IsNil" 0) ReflectliteValue.isNil) Tryz.func140 (by kernel_rfl) (by kernel_rfl) (by kernel_rfl) (by kernel_rfl)
  have h27 := @run_callFunc_extern Tryz.prog 228 _ (ReflectliteType.abiMethod fun t => do pure (.int .u8 (← Rtype.kind t))) Tryz.func228 (by kernel_rfl) (by kernel_rfl) (by kernel_rfl) (by kernel_rfl)
  have h37 := @run_callFunc_extern Tryz.prog 239 _ (ReflectliteType.method ReflectliteType.elem) Tryz.func239 (by kernel_rfl) (by kernel_rfl) (by kernel_rfl) (by kernel_rfl)
  have h38 := @run_callFunc_extern Tryz.prog 240 _ (ReflectliteType.relation "Implements" ReflectliteType.implements_) Tryz.func240 (by kernel_rfl) (by kernel_rfl) (by kernel_rfl) (by kernel_rfl)
  have h10 := @run_callFunc_extern Tryz.prog 168 _ ReflectliteType.typeOf Tryz.func168 (by kernel_rfl) (by kernel_rfl) (by kernel_rfl) (by kernel_rfl)
  have h35 := @run_callFunc_extern Tryz.prog 237 _ (ReflectliteType.relation "AssignableTo" ReflectliteType.assignableTo) Tryz.func237 (by kernel_rfl) (by kernel_rfl) (by kernel_rfl) (by kernel_rfl)
  have h11 := @run_callFunc_extern Tryz.prog 169 _ (ReflectliteValue.method (ReflectliteValue.valueError "reflectlite.Value.Elem" 0) ReflectliteValue.elem) Tryz.func169 (by kernel_rfl) (by kernel_rfl) (by kernel_rfl) (by kernel_rfl)
  have h12 := @run_callFunc_extern Tryz.prog 170 _ ReflectliteValue.set Tryz.func170 (by kernel_rfl) (by kernel_rfl) (by kernel_rfl) (by kernel_rfl)
  have tO := Tryz.av_typeOf25
  have mA := Tryz.av_methodAssignableTo
  have a25 := Tryz.av_assignable25
  have v25 := Tryz.av_valueOf25
  have f6 := Tryz.av_valueOf27
  have f7 := Tryz.av_type27
  have mK := Tryz.av_methodKind
  have mE := Tryz.av_methodElem
  have mI := Tryz.av_methodImplements
  have k27 := Tryz.av_kind27
  have k25 := Tryz.av_kind25
  have e27 := Tryz.av_elem27
  have i25 := Tryz.av_implements25
  have n8 := Tryz.av_isNil27 ⟨w.heap.size, 0, none⟩ t ((w.alloc (.cells #[.pointer (some t)] 106)).alloc (.cells #[.pointer (some ⟨7, 106, none⟩), .pointer (some ⟨w.heap.size, 0, none⟩), .int .u64 150] 155)) (by simp)
  have hlt : 0 < w.heap.size := by
    rcases Nat.eq_zero_or_pos w.heap.size with h0 | h
    · simp [World.cell?, h0] at hg
    · exact h
  have hg2 : ((w.alloc (.cells #[.pointer (some t)] 106)).alloc (.cells #[.pointer (some ⟨7, 106, none⟩), .pointer (some ⟨w.heap.size, 0, none⟩), .int .u64 150] 155)).cell? ⟨0, 0, none⟩ = some (.iface 185 (.agg #[.pointer (some ⟨7, 93, none⟩)])) := by
    rw [World.cell?_alloc_lt _ _ ⟨0, 0, none⟩ (by simp), World.cell?_alloc_lt _ _ ⟨0, 0, none⟩ hlt]; exact hg
  have htl : t.block < w.heap.size := by
    rcases Nat.lt_or_ge t.block w.heap.size with h | h
    · exact h
    · simp [World.cell?, Array.getElem?_eq_none h] at ht0
  have el := Tryz.av_elemV27 ⟨w.heap.size, 0, none⟩ t (((w.alloc (.cells #[.pointer (some t)] 106)).alloc (.cells #[.pointer (some ⟨7, 106, none⟩), .pointer (some ⟨w.heap.size, 0, none⟩), .int .u64 150] 155)).alloc (.cells #[.pointer (some ⟨7, 106, none⟩), .pointer (some ⟨w.heap.size, 0, none⟩), .int .u64 150] 155)) (by rw [World.cell?_alloc_lt _ _ ⟨w.heap.size, 0, none⟩ (by simp; omega)]; simp)
  have st := Tryz.av_set25 t ⟨w.heap.size + 1 + 1 + 1, 0, none⟩ x0 o0 ((((w.alloc (.cells #[.pointer (some t)] 106)).alloc (.cells #[.pointer (some ⟨7, 106, none⟩), .pointer (some ⟨w.heap.size, 0, none⟩), .int .u64 150] 155)).alloc (.cells #[.pointer (some ⟨7, 106, none⟩), .pointer (some ⟨w.heap.size, 0, none⟩), .int .u64 150] 155)).alloc (.cells #[x0] 104)) ho0
    (by show World.cell? _ ⟨w.heap.size + 1 + 1 + 1, 0, none⟩ = _; rw [World.cell?_alloc_at _ _ _ _ (by simp)]; rfl)
    (by rw [World.cell?_alloc_lt _ _ t (by simp; omega), World.cell?_alloc_lt _ _ t (by simp; omega), World.cell?_alloc_lt _ _ t (by simp; omega), World.cell?_alloc_lt _ _ t htl]; exact ht0)
    (by rw [World.frozen?_alloc_old _ _ t (by simp; omega), World.frozen?_alloc_old _ _ t (by simp; omega), World.frozen?_alloc_old _ _ t (by simp; omega), World.frozen?_alloc_old _ _ t (Nat.ne_of_lt htl)]; exact hf0)
  go_enter Tryz.func86, Tryz.ntmps86
  go_wp2
  refine wp_loop_rounds 1 ?_
  rw [rounds_succ]
  go_wp2
  go_ret
  exact ⟨rfl, rfl⟩
end Go.Proofs.YtcapddcmnjeloaaGreatDoor
end

section
/- errors.As: the error's type is not the target's element type (after the kit's worked example ToyasAs). -/
namespace Go.Proofs.YtcapddcmnjeloaaGreatDoor
open Go.RowKit Go.Extern.Stop Go.Stop Go.Extern
theorem Tryz.am_typeOf (v : Value) (w : World) : (ReflectliteType.typeOf #[.iface 95 v]).run Tryz.prog w = .ok (.iface 185 (.agg #[.pointer (some ⟨7, 95, none⟩)])) w := by kernel_rfl
theorem Tryz.am_assignable (w : World) : (ReflectliteType.relation "AssignableTo" ReflectliteType.assignableTo #[.agg #[.pointer (some ⟨7, 95, none⟩)], .iface 185 (.agg #[.pointer (some ⟨7, 104, none⟩)])]).run Tryz.prog w = .ok (.bool false) w := by kernel_rfl
@[go_sem] theorem Tryz.am_as (v : Value) (w : World) : (Instr.typeAssert (.iface 95 v) 93 190 true).run Tryz.prog w = .ok (.tuple #[.nilIface, .bool false]) w := run_typeAssert_lacksB Tryz.underlying190 (by kernel_rfl) (by kernel_rfl) v 93 w
@[go_sem] theorem Tryz.am_unwrap (v : Value) (w : World) : (Instr.typeAssert (.iface 95 v) 93 193 true).run Tryz.prog w = .ok (.tuple #[.nilIface, .bool false]) w := run_typeAssert_lacksB Tryz.underlying193 (by kernel_rfl) (by kernel_rfl) v 93 w
@[go_sem] theorem Tryz.am_unwraps (v : Value) (w : World) : (Instr.typeAssert (.iface 95 v) 93 195 true).run Tryz.prog w = .ok (.tuple #[.nilIface, .bool false]) w := run_typeAssert_lacksB Tryz.underlying195 (by kernel_rfl) (by kernel_rfl) v 93 w
set_option maxHeartbeats 4000000 in
theorem am_miss (v : Value) (t : Addr) (w : World) (hg : w.cell? ⟨0, 0, none⟩ = some (.iface 185 (.agg #[.pointer (some ⟨7, 93, none⟩)]))) :
    Calls Tryz.prog 86 #[.iface 95 v, .iface 106 (.pointer (some t))] w fun ev w' => ev = .returned (.bool false) ∧ w' = (((w.alloc (.cells #[.pointer (some t)] 106)).alloc (.cells #[.pointer (some ⟨7, 106, none⟩), .pointer (some ⟨w.heap.size, 0, none⟩), .int .u64 150] 155)).alloc (.cells #[.pointer (some ⟨7, 106, none⟩), .pointer (some ⟨w.heap.size, 0, none⟩), .int .u64 150] 155)) := by
  have h6 := @run_callFunc_extern Tryz.prog 138 _ (fun args => ReflectliteValue.unpack (args.getD 0 (.tuple #[]))) Tryz.func138 (by kernel_rfl) (by kernel_rfl) (by kernel_rfl) (by kernel_rfl)
  have h7 := @run_callFunc_extern Tryz.prog 139 _ (ReflectliteValue.methodAny (ReflectliteValue.valueError "reflectlite.Value.Type" 0) (fun t _ _ _ => ReflectliteType.toType t)) Tryz.func139 (by kernel_rfl) (by kernel_rfl) (by kernel_rfl) (by kernel_rfl)
  have h8 := @run_callFunc_extern Tryz.prog 140 _ (ReflectliteValue.method (ReflectliteValue.valueError "reflectlite.Value.IsNil" 0) ReflectliteValue.isNil) Tryz.func140 (by kernel_rfl) (by kernel_rfl) (by kernel_rfl) (by kernel_rfl)
  have h27 := @run_callFunc_extern Tryz.prog 228 _ (ReflectliteType.abiMethod fun t => do pure (.int .u8 (← Rtype.kind t))) Tryz.func228 (by kernel_rfl) (by kernel_rfl) (by kernel_rfl) (by kernel_rfl)
  have h37 := @run_callFunc_extern Tryz.prog 239 _ (ReflectliteType.method ReflectliteType.elem) Tryz.func239 (by kernel_rfl) (by kernel_rfl) (by kernel_rfl) (by kernel_rfl)
  have h38 := @run_callFunc_extern Tryz.prog 240 _ (ReflectliteType.relation "Implements" ReflectliteType.implements_) Tryz.func240 (by kernel_rfl) (by kernel_rfl) (by kernel_rfl) (by kernel_rfl)
  have h10 := @run_callFunc_extern Tryz.prog 168 _ ReflectliteType.typeOf Tryz.func168 (by kernel_rfl) (by kernel_rfl) (by kernel_rfl) (by kernel_rfl)
  have h35 := @run_callFunc_extern Tryz.prog 237 _ (ReflectliteType.relation "AssignableTo" ReflectliteType.assignableTo) Tryz.func237 (by kernel_rfl) (by kernel_rfl) (by kernel_rfl) (by kernel_rfl)
  have tO := Tryz.am_typeOf
  have mA := Tryz.av_methodAssignableTo
  have a25 := Tryz.am_assignable
  have f6 := Tryz.av_valueOf27
  have f7 := Tryz.av_type27
  have mK := Tryz.av_methodKind
  have mE := Tryz.av_methodElem
  have mI := Tryz.av_methodImplements
  have k27 := Tryz.av_kind27
  have k25 := Tryz.av_kind25
  have e27 := Tryz.av_elem27
  have i25 := Tryz.av_implements25
  have n8 := Tryz.av_isNil27 ⟨w.heap.size, 0, none⟩ t ((w.alloc (.cells #[.pointer (some t)] 106)).alloc (.cells #[.pointer (some ⟨7, 106, none⟩), .pointer (some ⟨w.heap.size, 0, none⟩), .int .u64 150] 155)) (by simp)
  have hlt : 0 < w.heap.size := by
    rcases Nat.eq_zero_or_pos w.heap.size with h0 | h
    · simp [World.cell?, h0] at hg
    · exact h
  have hg2 : ((w.alloc (.cells #[.pointer (some t)] 106)).alloc (.cells #[.pointer (some ⟨7, 106, none⟩), .pointer (some ⟨w.heap.size, 0, none⟩), .int .u64 150] 155)).cell? ⟨0, 0, none⟩ = some (.iface 185 (.agg #[.pointer (some ⟨7, 93, none⟩)])) := by
    rw [World.cell?_alloc_lt _ _ ⟨0, 0, none⟩ (by simp), World.cell?_alloc_lt _ _ ⟨0, 0, none⟩ hlt]; exact hg
  go_enter Tryz.func86, Tryz.ntmps86
  go_wp2
  refine wp_loop_rounds 1 ?_
  rw [rounds_succ]
  go_wp2
  go_ret
  exact ⟨rfl, rfl⟩
end Go.Proofs.YtcapddcmnjeloaaGreatDoor
end

section
/-
  Chapter 11, in the program: byLifting.
-/
namespace Go.Proofs.YtcapddcmnjeloaaGreatDoor
set_option maxRecDepth 100000
open Go.RowKit Go.Shelf
attribute [local go_sem] Oper.semAt_some
def TabE (w : World) : Prop := w.cell? ⟨0, 0, none⟩ = some (.iface 185 (.agg #[.pointer (some ⟨7, 93, none⟩)]))
theorem TabE.below {w w' : World} (h : TabE w) (hb : Below w.heap.size w w') : TabE w' := (hb.cell (World.block_lt_of_cell? w _ h)).trans h
theorem asNil (t : Value) (w : World) : Calls Tryz.prog 86 #[.nilIface, t] w fun e w' => e = .returned (.bool false) ∧ Below w.heap.size w w' := (av_nil t w).mono fun e w' ⟨h1, h2⟩ => ⟨h1, by rw [h2]; exact Below.refl _ _⟩
theorem asMiss (v : Value) (g : Nat) (w : World) (tb : TabE w) : Calls Tryz.prog 86 #[.iface 95 v, .iface 106 (.pointer (some ⟨g, 0, none⟩))] w fun e w' => e = .returned (.bool false) ∧ Below w.heap.size w w' := (am_miss v ⟨g, 0, none⟩ w tb).mono fun e w' ⟨h1, h2⟩ => ⟨h1, by
  rw [h2]
  exact (((Below.refl _ w).alloc (Nat.le_refl _) _).alloc (by simp) _).alloc (by simp; omega) _⟩
theorem asHit (p : Int) (g : Nat) (z : Value) (w : World) (tb : TabE w) (hz : Blk1 w g 104 z) : Calls Tryz.prog 86 #[.iface 104 (.agg #[.int .i64 p]), .iface 106 (.pointer (some ⟨g, 0, none⟩))] w fun e w' => e = .returned (.bool true) ∧ Below g w w' := (av_hit ⟨g, 0, none⟩ (.int .i64 p) z w rfl tb hz.cell0 (hz.free 0)).mono fun e w' ⟨h1, h2⟩ => ⟨h1, by
  have := hz.lt
  rw [h2]
  exact (((((Below.refl g w).alloc (by omega) _).alloc (by simp; omega) _).alloc (by simp; omega) _).alloc (by simp; omega) _).setCell (by show g ≤ g; omega) _⟩
theorem OwnR.move {B : Nat} {w w' : World} {v : Value} {l : List (Int × Int)} (h : OwnR B w v l) (hb : ∀ k, v.ownBlock = some k → w'.heap[k]? = w.heap[k]?) : OwnR B w' v l := by
  obtain ⟨h1, ⟨h2, h3⟩ | ⟨g, cap, cur, rfl, hB, hg, rest⟩⟩ := h
  · exact ⟨h1, .inl ⟨h2, h3⟩⟩
  · exact ⟨h1, .inr ⟨g, cap, cur, rfl, hB, (hb g rfl).trans hg, rest⟩⟩
theorem OwnR.lt {B : Nat} {w : World} {v : Value} {l : List (Int × Int)} (h : OwnR B w v l) {k : Nat} (hk : v.ownBlock = some k) : B ≤ k ∧ k < w.heap.size := World.ownsRow.lt h k hk
theorem sl_none {n : Nat} {xs bs : List Int} (h : ∀ q : Nat, 101 ≤ q → q ≤ 199 → prmB (q : Int) = true → (ivX n n q xs).ok = false) : slX n n xs bs = ([], false) := slX_none fun q h1 h2 => by
  obtain ⟨k, rfl⟩ := Int.eq_ofNat_of_zero_le (show 0 ≤ q by omega)
  cases hp : prmB (k : Int) with
  | true => exact h k (by omega) (by omega) hp
  | false =>
    cases hv : (ivX n n k xs).ok with
    | false => rfl
    | true =>
      obtain ⟨_, -, -, -, hp2, -⟩ := ivX_says hv
      rw [hp] at hp2; cases hp2
theorem sl_first {n x : Nat} {xs bs : List Int} (hs : sysB n n xs bs = true) (h1 : 101 ≤ x) (h2 : x ≤ 199) (hi : (ivX n n x xs).ok = true) (h : ∀ q : Nat, 101 ≤ q → q < x → prmB (q : Int) = true → (ivX n n q xs).ok = false) : slX n n xs bs = slQ x n xs bs := slX_at hs ⟨by omega, by omega, hi, fun q h3 h4 => by
  obtain ⟨k, rfl⟩ := Int.eq_ofNat_of_zero_le (show 0 ≤ q by omega)
  cases hp : prmB (k : Int) with
  | true => exact h k (by omega) (by omega) hp
  | false =>
    cases hv : (ivX n n k xs).ok with
    | false => rfl
    | true =>
      obtain ⟨_, -, -, -, hp2, -⟩ := ivX_says hv
      rw [hp] at hp2; cases hp2⟩
theorem mem_prm {pre : List PrmQ} {m q : Nat} (h : prmV pre = prmTo m) (hq : q < m) (hp : prmB (q : Int) = true) : ∃ y ∈ pre, y.1 = q := by
  have : (q : Int) ∈ prmV pre := by rw [h]; exact prmTo_mem.mpr ⟨q, rfl, hq, hp⟩
  obtain ⟨y, hy, e⟩ := List.mem_map.mp this
  exact ⟨y, hy, by omega⟩
structure LbW (w : World) (n L Lb m mb : Nat) (a ab : Option Addr) (W : World) : Prop where
  mat : Blk3 W w.heap.size 26 (.int .i64 n) (.int .i64 n) (.slice a L m)
  rhs : Blk1 W (w.heap.size + 1) 24 (.slice ab Lb mb)
  res : Blk1 W (w.heap.size + 1 + 1) 29 (.slice none 0 0)
  err : Blk1 W (w.heap.size + 1 + 1 + 1) 93 .nilIface
  bel : Below w.heap.size w W
theorem LbW.ab {w : World} {n L Lb m mb : Nat} {a ab : Option Addr} {W W' : World} {row : Option Nat} (h : LbW w n L Lb m mb a ab W) (hg : W.grownBy W' row) (hr : ∀ r, row = some r → w.heap.size + 4 ≤ r) : LbW w n L Lb m mb a ab W' := by
  have keep : ∀ g, g < W.heap.size → g < w.heap.size + 4 → W'.heap[g]? = W.heap[g]? := fun g hl h1 => hg.block g hl (fun e => by have := hr g e.symm; omega)
  exact ⟨(keep _ h.mat.lt (by omega)).trans h.mat, (keep _ h.rhs.lt (by omega)).trans h.rhs, (keep _ h.res.lt (by omega)).trans h.res, (keep _ h.err.lt (by omega)).trans h.err, h.bel.grown hg h.bel.size (fun r e => by have := hr r e; omega)⟩
theorem LbW.below {w : World} {n L Lb m mb B : Nat} {a ab : Option Addr} {W W' : World} (h : LbW w n L Lb m mb a ab W) (hb : Below B W W') (hB : w.heap.size + 4 ≤ B) : LbW w n L Lb m mb a ab W' :=
  ⟨h.mat.keep hb (by omega), (hb.block _ (by omega)).trans h.rhs, (hb.block _ (by omega)).trans h.res, (hb.block _ (by omega)).trans h.err, h.bel.trans (hb.mono (by omega))⟩
def lbI (w : World) (n L Lb m mb : Nat) (a ab : Option Addr) (bad : Nat → Prop) (pre : List PrmQ) (_ : Nat → Prop) (W : World) : Prop := (∀ x ∈ pre, 101 ≤ x.1 → x.1 ≤ 199 → bad x.1) ∧ LbW w n L Lb m mb a ab W
def lbE (w : World) (n L Lb m mb : Nat) (a ab : Option Addr) (bad : Nat → Prop) (RS : Nat → List (Int × Int) × Bool) (c : Code) (pre : List PrmQ) (M : Nat → Prop) (W : World) : Prop :=
  ∃ (ini : List PrmQ) (x : PrmQ), pre = ini ++ [x] ∧ (∀ y ∈ ini, 101 ≤ y.1 → y.1 ≤ 199 → bad y.1) ∧
    ((c = .exit 0 ∧ 199 < x.1 ∧ LbW w n L Lb m mb a ab W) ∨
     (c = .ret ∧ 101 ≤ x.1 ∧ x.1 ≤ 199 ∧ ¬ bad x.1 ∧ ∃ (qa : Option Addr) (qc : Nat) (ev : Value), Blk1 W (w.heap.size + 1 + 1) 29 (.slice qa (RS x.1).1.length qc) ∧ Blk1 W (w.heap.size + 1 + 1 + 1) 93 ev ∧ OwnR w.heap.size W (.slice qa (RS x.1).1.length qc) (RS x.1).1 ∧ (∀ k, (Value.slice qa (RS x.1).1.length qc).ownBlock = some k → M k) ∧ (((RS x.1).2 = true ∧ ev = .nilIface) ∨ ((RS x.1).2 = false ∧ ∃ t u, ev = .iface t u)) ∧ Below w.heap.size w W))
theorem lbI.ab (w : World) (n L Lb m mb : Nat) (a ab : Option Addr) (bad : Nat → Prop) : AbY (w.heap.size + 4) (lbI w n L Lb m mb a ab bad) := fun _ _ _ _ _ h hg hr => ⟨h.1, h.2.ab hg (fun r e => (hr r e).1)⟩
theorem lbE.ab (w : World) (n L Lb m mb : Nat) (a ab : Option Addr) (bad : Nat → Prop) (RS : Nat → List (Int × Int) × Bool) (c : Code) : AbY (w.heap.size + 4) (lbE w n L Lb m mb a ab bad RS c) := fun _ _ _ _ _ h hg hr => by
  obtain ⟨ini, x, e, hi, ⟨h1, h2, h3⟩ | ⟨h1, h2, h3, h4, qa, qc, ev, c2, c3, ho, hm, hev, hB⟩⟩ := h
  · exact ⟨ini, x, e, hi, .inl ⟨h1, h2, h3.ab hg (fun r e => (hr r e).1)⟩⟩
  · refine ⟨ini, x, e, hi, .inr ⟨h1, h2, h3, h4, qa, qc, ev, (hg.block _ c2.lt (fun e => by have := hr _ e.symm; omega)).trans c2, (hg.block _ c3.lt (fun e => by have := hr _ e.symm; omega)).trans c3, ho.move (fun k hk => hg.block k (ho.lt hk).2 (fun e => (hr k e.symm).2 (hm k hk))), hm, hev, hB.grown hg hB.size (fun r e => by have := hr r e; omega)⟩⟩
set_option maxHeartbeats 8000000 in
theorem iByLif (n : Nat) (a : Option Addr) (m : Nat) (xs : List Int) (ab : Option Addr) (mb : Nat) (bs : List Int) (w : World) (h : Rd w a xs) (hc : CelA a xs.length m) (hs : sysB n n xs bs = true) (hb : Rd w ab bs) (tb : TabE w) :
    Calls Tryz.prog 42 #[.agg #[.int .i64 n, .int .i64 n, .slice a xs.length m], .slice ab bs.length mb] w (RoadRes (slX n n xs bs).1 (slX n n xs bs).2 w) := by
  have LT : Hid (∀ (d : Nat) (w' : World), 101 ≤ d → d ≤ 199 → Below w.heap.size w w' → Calls Tryz.prog 85 #[.agg #[.int .i64 n, .int .i64 n, .slice a xs.length m], .slice ab bs.length mb, .int .i64 (d : Int)] w' (LiftRes d (ivX n n d xs).ok (slQ d n xs bs).1 (slQ d n xs bs).2 w')) := fun d w' h1 h2 hb' => iLifted d n a m xs ab mb bs w' (by omega) (by omega) (h.below hb') hc hs (hb.below hb')
  have HN : Hid ((∀ q : Nat, 101 ≤ q → q ≤ 199 → prmB (q : Int) = true → (ivX n n q xs).ok = false) → slX n n xs bs = ([], false)) := fun h => sl_none h
  have HY : Hid (∀ x : Nat, 101 ≤ x → x ≤ 199 → ¬ (ivX n n x xs).ok = false → (∀ q : Nat, 101 ≤ q → q < x → prmB (q : Int) = true → (ivX n n q xs).ok = false) → slX n n xs bs = slQ x n xs bs) := fun x h1 h2 h3 h4 => sl_first hs h1 h2 (by simpa using h3) h4
  have TB := Lib.hid tb
  generalize slX n n xs bs = RES at HN HY ⊢
  obtain ⟨bad, hbad⟩ : ∃ bad : Nat → Prop, bad = fun (d : Nat) => (ivX n n (d : Int) xs).ok = false := ⟨_, rfl⟩
  obtain ⟨RS, hRS⟩ : ∃ RS : Nat → List (Int × Int) × Bool, RS = fun (d : Nat) => slQ (d : Int) n xs bs := ⟨_, rfl⟩
  have HB := Lib.hid hbad
  have HR := Lib.hid hRS
  obtain ⟨L, hL⟩ : ∃ L, xs.length = L := ⟨_, rfl⟩
  obtain ⟨Lb, hLb⟩ : ∃ Lb, bs.length = Lb := ⟨_, rfl⟩
  rw [hL, hLb] at LT ⊢
  clear h hc hs hb tb hbad hRS hL hLb
  refine (callsIn_wide (n := 4)).1 ?_
  refine callsIn_of_wp_marks Tryz.func42 rfl trivial ?_ rfl
  simp only [Tryz.ntmps42, List.size_toArray, List.length_cons, List.length_nil, Nat.reduceAdd, Nat.reduceSub, Array.replicate_succ, Array.replicate_zero, List.push_toArray, List.append_toArray, List.nil_append, List.cons_append]
  gi_wp2_with (refine ⟨trivial, ?_⟩; gi_at_call 61; refine (callsIn_wide.2 (iPrimes _)).mono ?_; rintro e w' ⟨rfl, rfl⟩)
  have J0 : Hid (lbI w n L Lb m mb a ab bad [] (fun _ => False) ((((w.alloc (.cells #[.int .i64 n, .int .i64 n, .slice a L m] 26)).alloc (.cells #[.slice ab Lb mb] 24)).alloc (.cells #[.slice none 0 0] 29)).alloc (.cells #[.nilIface] 93))) :=
    ⟨fun x hx => by simp at hx, ((((Blk3.at_ _ _ _ _ rfl).old _).old _).old _), (((Blk1.at_ _ _ (by simp)).old _).old _), ((Blk1.at_ _ _ (by simp)).old _), (Blk1.at_ _ _ (by simp)), ((((Below.refl _ w).alloc (Nat.le_refl _) _).alloc (by simp) _).alloc (by simp; omega) _).alloc (by simp; omega) _⟩
  have SZ : ((((w.alloc (.cells #[.int .i64 n, .int .i64 n, .slice a L m] 26)).alloc (.cells #[.slice ab Lb mb] 24)).alloc (.cells #[.slice none 0 0] 29)).alloc (.cells #[.nilIface] 93)).heap.size = w.heap.size + 4 := by simp
  generalize ((((w.alloc (.cells #[.int .i64 n, .int .i64 n, .slice a L m] 26)).alloc (.cells #[.slice ab Lb mb] 24)).alloc (.cells #[.slice none 0 0] 29)).alloc (.cells #[.nilIface] 93)) = W0 at J0 SZ ⊢
  refine wpIn_rangeY (F := Fence.wide) rfl (by omega) (gf := 103) rfl trivial (enters_of Tryz.func103 (by kernel_rfl) rfl) (seqPrimesY 3 (by omega)) (fun _ => rfl) (lbI w n L Lb m mb a ab bad) (lbE w n L Lb m mb a ab bad RS) (by rw [SZ]; exact lbI.ab w n L Lb m mb a ab bad) (fun c => by rw [SZ]; exact lbE.ab w n L Lb m mb a ab bad RS c) J0.out
    (fun x => { tmps := #[.agg #[.int .i64 n, .int .i64 n, .slice a L m], .slice ab Lb mb, .pointer (some ⟨w.heap.size, 0, none⟩), .pointer (some ⟨w.heap.size + 1, 0, none⟩), .pointer (some ⟨w.heap.size + 1 + 1, 0, none⟩), .pointer (some ⟨w.heap.size + 1 + 1 + 1, 0, none⟩), .int .i64 (x.1 : Int), undef, undef, undef, .func (.func 103) #[] #[], .int .i64 (x.1 : Int), undef, undef, undef, undef, undef, undef, undef, undef, undef, undef, undef, undef, undef, undef, undef, undef, undef, undef], defers := [] }) ?assign ?body ?done ?stop
  case assign =>
    intro l x W K hK
    gi_wp2
    exact hK
  case body =>
    rintro l pre x M W ⟨hbad, hW⟩ hM hNx hSz
    rw [SZ] at hM hSz ⊢
    have J := Lib.hid hW
    have HM := Lib.hid hM
    have HBD := Lib.hid hbad
    obtain ⟨d, hd⟩ : ∃ d : Nat, x.1 = d := ⟨_, rfl⟩
    have DD := Lib.hid hd
    have x2 := x.2.1
    rw [hd] at x2 ⊢
    clear hW hM hbad hd hNx J0
    by_cases h1 : 199 < d
    · gi_wp2
      exact ⟨M, ⟨Nat.le_refl _, fun _ _ _ _ => rfl, fun g hg => ⟨.inl hg, (HM.out g hg).2⟩⟩, pre, x, rfl, HBD.out, .inl ⟨rfl, by rw [DD.out]; exact h1, J.out⟩⟩
    by_cases h2 : d < 101
    · gi_wp2
      exact ⟨M, ⟨Nat.le_refl _, fun _ _ _ _ => rfl, fun g hg => ⟨.inl hg, (HM.out g hg).2⟩⟩, fun y hy h3 h4 => (List.mem_append.1 hy).elim (fun h => HBD.out y h h3 h4) (fun e => by simp at e; subst e; have := DD.out; omega), J.out⟩
    have y0 := J.out.mat.cell0
    have y1 := J.out.mat.cell1
    have y2 := J.out.mat.cell2
    have y3 := J.out.rhs.cell0
    have LTd := Lib.hid (LT.out d W (by omega) (by omega) J.out.bel)
    have c1 : ((199 : Int) < (d : Int)) = False := by simp; omega
    have c2 : ((d : Int) < 101) = False := by simp; omega
    gi_wp2_with (refine ⟨trivial, ?_⟩; gi_at_call 85; refine (callsIn_wide.2 LTd.out).mono ?_; rintro e w2 ⟨v, ev, rfl, hb2, hv⟩)
    have sW := hSz
    have lz := hb2.size
    have J2 := Lib.hid ((J.out.below hb2 (by omega)).below ((Below.refl w2.heap.size w2).alloc (Nat.le_refl _) (.cells #[.int .i64 0] 104)) (by omega))
    have B2 : Hid (Below W.heap.size W (w2.alloc (.cells #[.int .i64 0] 104))) := hb2.alloc hb2.size _
    have TB2 := Lib.hid (TB.out.below J2.out.bel)
    have KP : Hid (∀ w', Below W.heap.size W w' → KpY (w.heap.size + 4) M M W w') := fun w' hb => ⟨hb.size, fun k _ hk _ => hb.block k hk, fun k hk => ⟨.inl hk, Nat.lt_of_lt_of_le (HM.out k hk).2 hb.size⟩⟩
    have BAD : Hid (bad d ↔ (ivX n n d xs).ok = false) := by show _ ↔ _; rw [HB.out]
    have RSD : Hid (RS d = slQ d n xs bs) := by show _ = _; rw [HR.out]
    rcases hv with ⟨hi, rfl, rfl⟩ | ⟨hi, ho, hev⟩
    · have Z2 : Hid (Blk1 (w2.alloc (.cells #[.int .i64 0] 104)) w2.heap.size 104 (.int .i64 0)) := Blk1.at_ _ _ rfl
      have BD : Hid (bad d) := BAD.out.2 hi
      clear hi hb2 y0 y1 y2 y3
      refine ⟨trivial, ?_⟩
      refine (callsIn_wide.2 (asHit d w2.heap.size _ _ TB2.out Z2.out)).mono ?_
      rintro e w3 ⟨rfl, hb3⟩
      have J3 := Lib.hid (J2.out.below hb3 (by omega))
      have B3 := Lib.hid (B2.out.trans (hb3.mono lz))
      clear hb3
      gi_wp2
      exact ⟨M, KP.out _ B3.out, fun y hy h3 h4 => (List.mem_append.1 hy).elim (fun h => HBD.out y h h3 h4) (fun e => by simp at e; subst e; rw [DD.out]; exact BD.out), J3.out⟩
    · obtain ⟨qa, qc, rfl⟩ := ho.form
      have ND : Hid (¬ bad d) := fun hb => by have := BAD.out.1 hb; rw [hi] at this; cases this
      have O2 := Lib.hid (ho.old (.cells #[.int .i64 0] 104))
      rw [← RSD.out] at O2 hev ⊢
      have FIN : Hid (∀ (w3 : World) (ev : Value), Below w2.heap.size (w2.alloc (.cells #[.int .i64 0] 104)) w3 → True) := fun _ _ _ => trivial
      clear hi hb2 y0 y1 y2 y3 ho
      have AS : Hid (CallsIn (Fence.wide.inRound l) 1 Tryz.prog 86 #[ev, .iface 106 (.pointer (some ⟨w2.heap.size, 0, none⟩))] (w2.alloc (.cells #[.int .i64 0] 104)) fun e w' => e = .returned (.bool false) ∧ Below (w2.alloc (.cells #[.int .i64 0] 104)).heap.size (w2.alloc (.cells #[.int .i64 0] 104)) w') := by
        rcases hev with ⟨-, rfl⟩ | ⟨-, s, rfl⟩
        · exact callsIn_wide.2 (asNil _ _)
        · exact callsIn_wide.2 (asMiss _ _ _ TB2.out)
      have HEV : Hid (((RS d).2 = true ∧ ev = .nilIface) ∨ ((RS d).2 = false ∧ ∃ t u, ev = .iface t u)) := hev.imp id (fun ⟨h1, s, h2⟩ => ⟨h1, _, _, h2⟩)
      refine ⟨trivial, ?_⟩
      refine AS.out.mono ?_
      rintro e w3 ⟨rfl, hb3⟩
      have J3 := Lib.hid (J2.out.below hb3 (by simp; omega))
      have B3 := Lib.hid (B2.out.trans (hb3.mono B2.out.size))
      have O3 := Lib.hid (O2.out.keep hb3)
      have r0 := J3.out.res.cell0
      have r1 := J3.out.res.free 0
      have e0 := J3.out.err.cell0
      have e1 := J3.out.err.free 0
      have R4 := Lib.hid ((J3.out.res.set0 (.slice qa (RS d).1.length qc)).far (a := ⟨w.heap.size + 1 + 1 + 1, 0, none⟩) (by show w.heap.size + 1 + 1 ≠ w.heap.size + 1 + 1 + 1; omega) ev)
      have E4 := Lib.hid ((J3.out.err.far (a := ⟨w.heap.size + 1 + 1, 0, none⟩) (by show w.heap.size + 1 + 1 + 1 ≠ w.heap.size + 1 + 1; omega) (.slice qa (RS d).1.length qc)).set0 ev)
      have O4 : Hid (OwnR W.heap.size ((w3.setCell ⟨w.heap.size + 1 + 1, 0, none⟩ (.slice qa (RS d).1.length qc)).setCell ⟨w.heap.size + 1 + 1 + 1, 0, none⟩ ev) (.slice qa (RS d).1.length qc) (RS d).1) := O3.out.move fun k hk => by
        have := (O3.out.lt hk).1
        exact (Below.heap_setCell _ ⟨w.heap.size + 1 + 1 + 1, 0, none⟩ ev k (by show k ≠ w.heap.size + 1 + 1 + 1; omega)).trans (Below.heap_setCell _ ⟨w.heap.size + 1 + 1, 0, none⟩ _ k (by show k ≠ w.heap.size + 1 + 1; omega))
      have B4 := Lib.hid ((J3.out.bel.setCell (p := ⟨w.heap.size + 1 + 1, 0, none⟩) (by show w.heap.size ≤ w.heap.size + 1 + 1; omega) (.slice qa (RS d).1.length qc)).setCell (p := ⟨w.heap.size + 1 + 1 + 1, 0, none⟩) (by show w.heap.size ≤ w.heap.size + 1 + 1 + 1; omega) ev)
      have K4 : Hid (KpY (w.heap.size + 4) M (fun k => (Value.slice qa (RS d).1.length qc).ownBlock = some k) W ((w3.setCell ⟨w.heap.size + 1 + 1, 0, none⟩ (.slice qa (RS d).1.length qc)).setCell ⟨w.heap.size + 1 + 1 + 1, 0, none⟩ ev)) := by
        refine ⟨by simp [World.setCell]; exact B3.out.size, fun k h3 h4 _ => ?_, fun k hk => ⟨.inr (O4.out.lt hk).1, (O4.out.lt hk).2⟩⟩
        exact ((Below.heap_setCell _ ⟨w.heap.size + 1 + 1 + 1, 0, none⟩ ev k (by show k ≠ w.heap.size + 1 + 1 + 1; omega)).trans (Below.heap_setCell _ ⟨w.heap.size + 1 + 1, 0, none⟩ _ k (by show k ≠ w.heap.size + 1 + 1; omega))).trans (B3.out.block k h4)
      have oc : ev.oneCell' = true := by rcases HEV.out with ⟨-, h⟩ | ⟨-, t, u, h⟩ <;> rw [h] <;> rfl
      clear hb3 AS hev
      rcases HEV.out with ⟨k1, rfl⟩ | ⟨k1, t, u, rfl⟩
      · have HE1 := Lib.hid k1
        clear k1 HEV
        gi_wp2
        refine ⟨_, K4.out, pre, x, rfl, HBD.out, .inr ⟨rfl, by rw [DD.out]; omega, by rw [DD.out]; omega, by rw [DD.out]; exact ND.out, ?_⟩⟩
        rw [DD.out]
        exact ⟨qa, qc, _, R4.out, E4.out, O4.out.le (by omega), fun k hk => hk, .inl ⟨HE1.out, rfl⟩, B4.out⟩
      · have HE2 := Lib.hid k1
        clear k1 HEV
        gi_wp2
        refine ⟨_, K4.out, pre, x, rfl, HBD.out, .inr ⟨rfl, by rw [DD.out]; omega, by rw [DD.out]; omega, by rw [DD.out]; exact ND.out, ?_⟩⟩
        rw [DD.out]
        exact ⟨qa, qc, _, R4.out, E4.out, O4.out.le (by omega), fun k hk => hk, .inr ⟨HE2.out, _, _, rfl⟩, B4.out⟩
  case done =>
    rintro ys M W hS ⟨hbad, hW⟩ hM hK
    rw [SZ] at hK ⊢
    have V : Hid (RES = ([], false)) := HN.out fun q h1 h2 hp => by
      obtain ⟨y, hy, e⟩ := mem_prm hS (show q < 10001 by omega) hp
      have := hbad y hy (by omega) (by omega)
      rw [HB.out, e] at this
      exact this
    have J := Lib.hid hW
    have HK := Lib.hid hK
    have r0 := hW.res.cell0
    have r1 := hW.res.free 0
    have e0 := hW.err.cell0
    have e1 := hW.err.free 0
    clear hbad hW hM hK hS J0
    obtain ⟨sv, hsv⟩ : ∃ sv : Value, sv = .iface 95 (.string ⟨#[110, 111, 32, 105, 110, 118, 101, 114, 115, 101, 32, 109, 111, 100, 117, 108, 111, 32, 97, 110, 121, 32, 111, 102, 32, 116, 104, 101, 32, 112, 114, 105, 109, 101, 115]⟩) := ⟨_, rfl⟩
    have R4 := Lib.hid ((J.out.res.set0 (.slice none 0 0)).far (a := ⟨w.heap.size + 1 + 1 + 1, 0, none⟩) (by show w.heap.size + 1 + 1 ≠ w.heap.size + 1 + 1 + 1; omega) sv)
    have E4 := Lib.hid ((J.out.err.far (a := ⟨w.heap.size + 1 + 1, 0, none⟩) (by show w.heap.size + 1 + 1 + 1 ≠ w.heap.size + 1 + 1; omega) (.slice none 0 0)).set0 sv)
    have B4 := Lib.hid ((J.out.bel.setCell (p := ⟨w.heap.size + 1 + 1, 0, none⟩) (by show w.heap.size ≤ w.heap.size + 1 + 1; omega) (.slice none 0 0)).setCell (p := ⟨w.heap.size + 1 + 1 + 1, 0, none⟩) (by show w.heap.size ≤ w.heap.size + 1 + 1 + 1; omega) sv)
    have D4 : Hid (((W.setCell ⟨w.heap.size + 1 + 1, 0, none⟩ (.slice none 0 0)).setCell ⟨w.heap.size + 1 + 1 + 1, 0, none⟩ sv).heap[w.heap.size + 4]? = some (.deferred (some []))) := (Below.heap_setCell _ ⟨w.heap.size + 1 + 1 + 1, 0, none⟩ sv _ (by show w.heap.size + 4 ≠ w.heap.size + 1 + 1 + 1; omega)).trans ((Below.heap_setCell _ ⟨w.heap.size + 1 + 1, 0, none⟩ _ _ (by show w.heap.size + 4 ≠ w.heap.size + 1 + 1; omega)).trans HK.out)
    gi_wp2
    rw [← hsv]
    generalize (W.setCell ⟨w.heap.size + 1 + 1, 0, none⟩ (.slice none 0 0)).setCell ⟨w.heap.size + 1 + 1 + 1, 0, none⟩ sv = W5 at R4 E4 B4 D4 ⊢
    refine ⟨by simp, .inl ⟨_, _, rfl, run_takeDeferred D4.out, ?_⟩⟩
    have hc5 := (put_blk R4.out (D := w.heap.size + 4) (by omega) (.deferred none)).cell0
    have hc6 := (put_blk E4.out (D := w.heap.size + 4) (by omega) (.deferred none)).cell0
    refine ⟨.tuple #[.slice none 0 0, sv], by simp [results, Tryz.f42, go_sem, hc5, hc6], ?_⟩
    rw [V.out]
    exact ⟨_, _, rfl, OwnR.nil _ _, B4.out.grown (grownBy_putObj' _ _ _) B4.out.size (fun k e => by cases e; omega), .inr ⟨rfl, _, _, hsv⟩⟩
  case stop =>
    rintro c pre M W ⟨ini', x', e', hS⟩ ⟨ini, x, e0, hbad, ⟨rfl, hx, hW⟩ | ⟨rfl, h1, h2, h3, qa, qc, ev, c2, c3, ho, hm, hev, hB⟩⟩ hM hK
    · rw [SZ] at hK ⊢
      rw [e'] at e0
      obtain ⟨rfl, e5⟩ := List.append_inj' e0 rfl
      obtain rfl : x' = x := by simpa using e5
      have V : Hid (RES = ([], false)) := HN.out fun q h1 h2 hp => by
        obtain ⟨y, hy, e⟩ := mem_prm hS (show q < x'.1 by omega) hp
        have := hbad y hy (by omega) (by omega)
        rw [HB.out, e] at this
        exact this
      clear e0 e5 e' hx
      have J := Lib.hid hW
      have HK := Lib.hid hK
      have r0 := hW.res.cell0
      have r1 := hW.res.free 0
      have e0 := hW.err.cell0
      have e1 := hW.err.free 0
      clear hbad hW hM hK hS J0
      obtain ⟨sv, hsv⟩ : ∃ sv : Value, sv = .iface 95 (.string ⟨#[110, 111, 32, 105, 110, 118, 101, 114, 115, 101, 32, 109, 111, 100, 117, 108, 111, 32, 97, 110, 121, 32, 111, 102, 32, 116, 104, 101, 32, 112, 114, 105, 109, 101, 115]⟩) := ⟨_, rfl⟩
      have R4 := Lib.hid ((J.out.res.set0 (.slice none 0 0)).far (a := ⟨w.heap.size + 1 + 1 + 1, 0, none⟩) (by show w.heap.size + 1 + 1 ≠ w.heap.size + 1 + 1 + 1; omega) sv)
      have E4 := Lib.hid ((J.out.err.far (a := ⟨w.heap.size + 1 + 1, 0, none⟩) (by show w.heap.size + 1 + 1 + 1 ≠ w.heap.size + 1 + 1; omega) (.slice none 0 0)).set0 sv)
      have B4 := Lib.hid ((J.out.bel.setCell (p := ⟨w.heap.size + 1 + 1, 0, none⟩) (by show w.heap.size ≤ w.heap.size + 1 + 1; omega) (.slice none 0 0)).setCell (p := ⟨w.heap.size + 1 + 1 + 1, 0, none⟩) (by show w.heap.size ≤ w.heap.size + 1 + 1 + 1; omega) sv)
      have D4 : Hid (((W.setCell ⟨w.heap.size + 1 + 1, 0, none⟩ (.slice none 0 0)).setCell ⟨w.heap.size + 1 + 1 + 1, 0, none⟩ sv).heap[w.heap.size + 4]? = some (.deferred (some []))) := (Below.heap_setCell _ ⟨w.heap.size + 1 + 1 + 1, 0, none⟩ sv _ (by show w.heap.size + 4 ≠ w.heap.size + 1 + 1 + 1; omega)).trans ((Below.heap_setCell _ ⟨w.heap.size + 1 + 1, 0, none⟩ _ _ (by show w.heap.size + 4 ≠ w.heap.size + 1 + 1; omega)).trans HK.out)
      gi_wp2
      rw [← hsv]
      generalize (W.setCell ⟨w.heap.size + 1 + 1, 0, none⟩ (.slice none 0 0)).setCell ⟨w.heap.size + 1 + 1 + 1, 0, none⟩ sv = W5 at R4 E4 B4 D4 ⊢
      refine ⟨by simp, .inl ⟨_, _, rfl, run_takeDeferred D4.out, ?_⟩⟩
      have hc5 := (put_blk R4.out (D := w.heap.size + 4) (by omega) (.deferred none)).cell0
      have hc6 := (put_blk E4.out (D := w.heap.size + 4) (by omega) (.deferred none)).cell0
      refine ⟨.tuple #[.slice none 0 0, sv], by simp [results, Tryz.f42, go_sem, hc5, hc6], ?_⟩
      rw [V.out]
      exact ⟨_, _, rfl, OwnR.nil _ _, B4.out.grown (grownBy_putObj' _ _ _) B4.out.size (fun k e => by cases e; omega), .inr ⟨rfl, _, _, hsv⟩⟩
    · rw [SZ] at hK ⊢
      rw [e'] at e0
      obtain ⟨rfl, e5⟩ := List.append_inj' e0 rfl
      obtain rfl : x' = x := by simpa using e5
      have V : Hid (RES = RS x'.1) := by
        show _ = _
        rw [HR.out]
        refine HY.out x'.1 h1 h2 (by rw [HB.out] at h3; exact h3) fun q h4 h5 hp => ?_
        obtain ⟨y, hy, e⟩ := mem_prm hS h5 hp
        have := hbad y hy (by omega) (by omega)
        rw [HB.out, e] at this
        exact this
      have C2 := Lib.hid c2
      have C3 := Lib.hid c3
      have O2 := Lib.hid ho
      have B2 := Lib.hid hB
      have HEV := Lib.hid hev
      have HMM := Lib.hid hm
      have HM := Lib.hid hM
      have D2 := Lib.hid hK
      clear e0 e5 e' h1 h2 h3 hbad hS c2 c3 ho hm hev hB hM hK HN HY LT J0
      gi_wp2
      refine ⟨by simp, .inl ⟨_, _, rfl, run_takeDeferred D2.out, ?_⟩⟩
      have hc5 := (put_blk C2.out (D := w.heap.size + 4) (by omega) (.deferred none)).cell0
      have hc6 := (put_blk C3.out (D := w.heap.size + 4) (by omega) (.deferred none)).cell0
      refine ⟨.tuple #[.slice qa (RS x'.1).1.length qc, ev], by simp [results, Tryz.f42, go_sem, hc5, hc6], ?_⟩
      rw [V.out]
      refine ⟨_, _, rfl, O2.out.move fun k hk => (World.putObj_heap_other ?_), B2.out.grown (grownBy_putObj' _ _ _) B2.out.size (fun k e => by cases e; omega), HEV.out⟩
      have h7 := HM.out k (HMM.out k hk)
      rw [SZ] at h7
      omega
end Go.Proofs.YtcapddcmnjeloaaGreatDoor
end

section
/-
  Chapter 6, in the program: IsSquare.
-/
namespace Go.Proofs.YtcapddcmnjeloaaGreatDoor
set_option maxRecDepth 100000
open Go.RowKit
set_option maxHeartbeats 1000000 in
theorem iIsSq (r c : Int) (a : Option Addr) (m : Nat) (xs : List Int) (w : World) (h : Rd w a xs) (hn : xs.length ≤ 16777216) :
    Calls Tryz.prog 73 #[.agg #[.int .i64 r, .int .i64 c, .slice a xs.length m]] w (Gives (.bool (isSq r c xs)) w) := by
  have H := Lib.hid h
  obtain ⟨n, hx⟩ : ∃ n, xs.length = n := ⟨_, rfl⟩
  have HX := Lib.hid hx
  rw [hx] at hn ⊢
  clear hx h
  have B0 : ∀ o1, Below w.heap.size w (w.alloc o1) := fun o1 => (Below.refl _ _).alloc (Nat.le_refl _) _
  have BH := Lib.hid B0
  clear B0
  have fin : ∀ b (w' : World), isSq r c xs = b → Below w.heap.size w w' → Gives (.bool (isSq r c xs)) w (.returned (.bool b)) w' := fun b w' h1 h2 => ⟨by rw [h1], h2⟩
  have FIN := Lib.hid fin
  clear fin
  go_enter Tryz.func73, Tryz.ntmps73
  go_wp2_with fail
  have ST := iIsMat r c a m xs _ (H.out.below (BH.out (.cells #[.int .i64 r, .int .i64 c, .slice a n m] 26))) (by rw [HX.out]; omega)
  rw [HX.out] at ST
  refine ST.mono ?_
  clear ST
  rintro e w1 ⟨rfl, hb⟩
  have K0 : Hid (Blk3 w1 w.heap.size 26 (.int .i64 r) (.int .i64 c) (.slice a n m)) := (Blk3.at_ _ _ _ _ rfl).keep hb (by simp)
  have B : Hid (Below w.heap.size w w1) := (BH.out _).trans (hb.mono (by simp))
  clear hb
  obtain ⟨ca0, ca1, ca2, -, -, -⟩ := K0.out.all
  obtain ⟨bm, hbm⟩ : ∃ b, isMat r c xs = b := ⟨_, rfl⟩
  rw [hbm]
  cases bm with
  | false =>
    have V : Hid (isSq r c xs = false) := by show isSq r c xs = false; unfold isSq; rw [hbm]; rfl
    clear hbm
    go_wp2_with fail
    go_ret
    exact FIN.out _ _ V.out B.out
  | true =>
    by_cases h1 : r = c
    · by_cases h2 : r ≤ 6
      · have V : Hid (isSq r c xs = true) := by show isSq r c xs = true; unfold isSq; rw [hbm, decide_eq_true h1, decide_eq_true h2]; rfl
        clear hbm
        subst h1
        go_wp2_with fail
        go_ret
        exact FIN.out _ _ V.out B.out
      · have V : Hid (isSq r c xs = false) := by show isSq r c xs = false; unfold isSq; rw [hbm, decide_eq_false h2]; simp
        clear hbm
        subst h1
        go_wp2_with fail
        go_ret
        exact FIN.out _ _ (by rw [V.out]; exact (decide_eq_false (by omega)).symm) B.out
    · have V : Hid (isSq r c xs = false) := by show isSq r c xs = false; unfold isSq; rw [hbm, decide_eq_false h1]; simp
      have n1 : (r == c) = false := by simpa using h1
      clear hbm
      go_wp2_with fail
      go_ret
      exact FIN.out _ _ V.out B.out
end Go.Proofs.YtcapddcmnjeloaaGreatDoor
end
