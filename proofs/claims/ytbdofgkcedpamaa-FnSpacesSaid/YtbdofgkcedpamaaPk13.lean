/-
  Texts of this seat, joined: Draw9 · TwoM · MulW · DrawSp · StkMath · SpLw · MatS10 · ShelfG · MatI11 · CatI
-/
import Derived.StillTailTactics
import Derived.IntWalk
import Derived.Maps.AppendAt
import Derived.OwnWalk
import Derived.Shelf.SlGeneric
import Derived.Shelf.Spec.SlicesGrow
import Derived.Ground.Names8Prog
import Derived.Test.YtbdofgkcedpamaaProg
import Derived.Test.YtbdofgkcedpamaaPk1
import Derived.Test.YtbdofgkcedpamaaPk2
import Derived.Test.YtbdofgkcedpamaaPk3
import Derived.Test.YtbdofgkcedpamaaPk4
import Derived.Test.YtbdofgkcedpamaaPk5
import Derived.Test.YtbdofgkcedpamaaPk8

section
/-
  The drawing of a unimodular matrix.
-/
namespace Go.Proofs.Ytbdofgkcedpamaa
set_option maxRecDepth 100000
open Go.RowKit

set_option maxRecDepth 100000 in
set_option maxHeartbeats 1000000 in
theorem sIdentC (n : Nat) (w : World) (hn : n ≤ 24) :
    Calls Try.prog 98 #[.int .i64 n] w (fun e w' => ∃ g : Nat, e = .returned (.tuple #[.agg #[.int .i64 n, .int .i64 n, .slice (some ⟨g, 0, none⟩) (n * n) (n * n)], .bool true]) ∧ w.heap.size ≤ g ∧ IntsC w' g (n * n) (idL n n) ∧ Below w.heap.size w w') := by
  have hle : n * n ≤ 24 * 24 := Nat.mul_le_mul hn hn
  have B0 : ∀ o1, Below w.heap.size w (w.alloc o1) := fun o1 => (Below.refl _ _).alloc (Nat.le_refl _) _
  have BH := Lib.hid B0
  clear B0
  go_enter Try.func98, Try.ntmps98
  go_wp2_with fail
  refine (sIn_t n 0 24 _ (by omega) (by omega)).mono ?_
  rintro e w2 ⟨rfl, rfl⟩
  go_wp2_with fail
  have K2 : Hid (Blk3 (w.alloc (.cells #[.int .i64 0, .int .i64 0, .slice none 0 0] 26)) w.heap.size 26 (.int .i64 0) (.int .i64 0) (.slice none 0 0)) := Blk3.at_ _ _ _ _ rfl
  have B := Lib.hid (BH.out (.cells #[.int .i64 0, .int .i64 0, .slice none 0 0] 26))
  refine (sNewC n n _ (by omega) (by omega)).mono ?_
  rintro e w3 ⟨g, rfl, hg, hi, hb⟩
  have l2 := Nat.lt_of_lt_of_le K2.out.lt hg
  clear hg
  obtain ⟨N, hN⟩ : ∃ N, n * n = N := ⟨_, rfl⟩
  have HN := Lib.hid hN
  rw [hN] at hi hle ⊢
  clear hN
  have K2 := Lib.hid (K2.out.keep hb K2.out.lt)
  have B := Lib.hid (B.out.trans (hb.mono B.out.size))
  have I := Lib.hid hi
  have gl := hi.lt
  clear hb hi
  have BA : Hid (Below w.heap.size w (w3.alloc (.cells #[.int .i64 n, .int .i64 n, .slice (some ⟨g, 0, none⟩) N N] 26))) := B.out.alloc B.out.size _
  have K2 := Lib.hid (K2.out.old (.cells #[.int .i64 n, .int .i64 n, .slice (some ⟨g, 0, none⟩) N N] 26))
  have K6 : Hid (Blk3 (w3.alloc (.cells #[.int .i64 n, .int .i64 n, .slice (some ⟨g, 0, none⟩) N N] 26)) w3.heap.size 26 (.int .i64 n) (.int .i64 n) (.slice (some ⟨g, 0, none⟩) N N)) := Blk3.at_ _ _ _ _ rfl
  have I := Lib.hid (I.out.old (.cells #[.int .i64 n, .int .i64 n, .slice (some ⟨g, 0, none⟩) N N] 26))
  go_wp2_with fail
  go_loopw [5] (fun i wr => ∃ k : Nat, i = .int .i64 k ∧ k ≤ n ∧ IntsC wr g N (idL n k) ∧ (w3.alloc (.cells #[.int .i64 n, .int .i64 n, .slice (some ⟨g, 0, none⟩) N N] 26)).grownBy wr (some g)) (fun i _ => n - (intOf i).toNat)
  case atStart => exact ⟨0, rfl, by omega, by rw [idL_zero, HN.out]; exact I.out, World.grownBy.refl _ _⟩
  case round =>
    obtain ⟨k, rfl, hk, hi, hgr⟩ := hrel
    have I := Lib.hid hi
    have G := Lib.hid hgr
    clear hi hgr
    have R2 := Lib.hid (K2.out.keepOne G.out (by omega))
    have R6 := Lib.hid (K6.out.keepOne G.out (by omega))
    obtain ⟨r0, r1, r2, -, -, -⟩ := R6.out.all
    by_cases hlt : k < n
    · have i1 : k * n + k < N := by rw [← HN.out]; exact idx_lt hlt hlt
      have hold := I.out.ints.cell (i := k * n + k) (by rw [idL_length, HN.out]; exact i1)
      rw [idL_at] at hold
      have hfr := I.out.ints.free (k * n + k)
      have c1 : (k : Int) * (n : Int) = ((k * n : Nat) : Int) := (Int.natCast_mul _ _).symm
      have d1 : 0 ≤ (k : Int) * (n : Int) ∧ (k : Int) * (n : Int) ≤ 600 := by rw [c1]; omega
      have e1 : 0 ≤ (k : Int) * (n : Int) + (k : Int) := by omega
      have e2 : (k : Int) * (n : Int) + (k : Int) < (N : Int) := by rw [c1]; omega
      have e3 : ((k : Int) * (n : Int) + (k : Int)).toNat = k * n + k := by rw [c1]; omega
      obtain ⟨d11, d12⟩ := d1
      have v1 : IntKind.i64.wrap ((k : Int) * (n : Int)) = (k : Int) * (n : Int) := IntWalk.i64_in _ (by omega)
      have v2 : IntKind.i64.wrap ((k : Int) * (n : Int) + (k : Int)) = (k : Int) * (n : Int) + (k : Int) := IntWalk.i64_in _ (by omega)
      clear c1
      go_wp2_with fail
      go_roundw
      case rel =>
        refine ⟨k + 1, by go_num, by omega, ?_, ?_⟩
        · rw [← idL_step]
          first | exact I.out.set (k * n + k) (by rw [idL_length, HN.out]; exact i1) _ | exact I.out.drew.set (k * n + k) (by rw [idL_length, HN.out]; exact i1) _
        · first | exact grown_set_one G.out rfl _ | exact grown_drew_one (grown_set_one G.out rfl _)
      case measure => simp [intOf]; omega
    · have hkn : k = n := by omega
      subst hkn
      have BW := Lib.hid (BA.out.trans (below_of_one G.out (by omega) BA.out.size))
      obtain ⟨s0, s1, s2, t0, t1, t2⟩ := R2.out.all
      go_wp2_with fail
      obtain ⟨E0, E1, E2, -, -, -⟩ := (((R2.out.set0 (.int .i64 k)).set1 (.int .i64 k)).set2 (.slice (some ⟨g, 0, none⟩) N N)).all
      refine bodyPost_ret (v := .tuple #[.agg #[.int .i64 k, .int .i64 k, .slice (some ⟨g, 0, none⟩) N N], .bool true]) (by simp [results, Try.results98, go_sem, E0, E1, E2]) rfl ⟨g, by rw [HN.out], by omega, ?_, ?_⟩
      · rw [HN.out]
        exact ((I.out.far (by show g ≠ w.heap.size; omega) _).far (by show g ≠ w.heap.size; omega) _).far (by show g ≠ w.heap.size; omega) _
      · exact ((BW.out.setCell (Nat.le_refl _) _).setCell (Nat.le_refl _) _).setCell (Nat.le_refl _) _
theorem Blk4.setJ {w : World} {b : Nat} {t : TypeId} {p q r s : Value} (h : Blk4 w b t p q r s) (u : Value) : Blk4 (w.setCell ⟨b, 2, none⟩ u) b t p q u s := by
  unfold Blk4 at *
  obtain ⟨hlt, hget⟩ := Array.getElem?_eq_some_iff.mp h
  simp [World.setCell, hlt, Array.getElem_modify, hget]
theorem Blk4.setT {w : World} {b : Nat} {t : TypeId} {p q r s : Value} (h : Blk4 w b t p q r s) (u : Value) : Blk4 (w.setCell ⟨b, 3, none⟩ u) b t p q r u := by
  unfold Blk4 at *
  obtain ⟨hlt, hget⟩ := Array.getElem?_eq_some_iff.mp h
  simp [World.setCell, hlt, Array.getElem_modify, hget]
theorem Blk4.frs {w w' : World} {b : Nat} {t : TypeId} {x y z u : Value} {p : Nat → Prop} (h : Blk4 w b t x y z u) (hf : FrS p w w') (hb : ¬ p b) : Blk4 w' b t x y z u := (hf.block b h.lt hb).trans h
/-- What l6Unimodular gives. -/
def UniMat (n cb : Nat) (w : World) (e : Ending) (w' : World) : Prop := ∃ (g : Nat) (zs : List Int), e = .returned (.agg #[.int .i64 n, .int .i64 n, .slice (some ⟨g, 0, none⟩) (n * n) (n * n)]) ∧ w.heap.size ≤ g ∧ zs.length = n * n ∧ IntsC w' g (n * n) zs ∧ Cur w' cb ∧ FrS (fun k => k = cb ∨ w.heap.size ≤ k) w w'
set_option maxRecDepth 100000 in
set_option maxHeartbeats 2000000 in
theorem l6Uni (w : World) (cb n : Nat) (hc : Cur w cb) (hn : n ≤ 24) : Calls Try.prog 71 #[.pointer (some ⟨cb, 0, none⟩), .int .i64 n] w (UniMat n cb w) := by
  have hlt := hc.lt
  have C0 := Lib.hid hc
  clear hc
  go_enter Try.func71, Try.ntmps71
  go_wp2_with fail
  refine (sIdentC n _ (by omega)).mono ?_
  rintro e w1 ⟨g, rfl, hg, hi, hb⟩
  have hg : w.heap.size < g := by simp at hg; omega
  obtain ⟨N, hN⟩ : ∃ N, n * n = N := ⟨_, rfl⟩
  have hle : N ≤ 24 * 24 := by rw [← hN]; exact Nat.mul_le_mul hn hn
  have HN := Lib.hid hN
  have HL : Hid ((idL n n).length = N) := by show _ = _; rw [idL_length, hN]
  rw [hN] at hi ⊢
  have K4 : Hid (Blk3 (w1.alloc (.cells #[.int .i64 n, .int .i64 n, .slice (some ⟨g, 0, none⟩) N N] 26)) w.heap.size 26 (.int .i64 0) (.int .i64 0) (.slice none 0 0)) := ((Blk3.at_ _ _ _ _ rfl).keep hb (by simp)).old _
  have K5 : Hid (Blk3 (w1.alloc (.cells #[.int .i64 n, .int .i64 n, .slice (some ⟨g, 0, none⟩) N N] 26)) w1.heap.size 26 (.int .i64 n) (.int .i64 n) (.slice (some ⟨g, 0, none⟩) N N)) := Blk3.at_ _ _ _ _ rfl
  have F1 : Hid (FrS (fun k => k = cb ∨ w.heap.size ≤ k) w (w1.alloc (.cells #[.int .i64 n, .int .i64 n, .slice (some ⟨g, 0, none⟩) N N] 26))) := (((FrS.refl _ w).alloc _).trans (FrS.of_below hb)).alloc _
  have C1 : Hid (Cur (w1.alloc (.cells #[.int .i64 n, .int .i64 n, .slice (some ⟨g, 0, none⟩) N N] 26)) cb) := ((C0.out.alloc _).grown (grown_of_below hb none) (by simp)).alloc _
  have I1 := Lib.hid (hi.old (.cells #[.int .i64 n, .int .i64 n, .slice (some ⟨g, 0, none⟩) N N] 26))
  have gl := hi.lt
  have s1 : w.heap.size < w1.heap.size := by omega
  clear hN hi hb C0
  go_upto_region 2 with fail
  generalize w1.alloc (.cells #[.int .i64 n, .int .i64 n, .slice (some ⟨g, 0, none⟩) N N] 26) = W at K4 K5 F1 C1 I1 ⊢
  obtain ⟨ob, hob⟩ : ∃ ob, w1.heap.size = ob := ⟨_, rfl⟩
  rw [hob] at K5 gl s1 ⊢
  clear hob
  go_wp2_with fail
  refine (l1Below _ cb 6 C1.out (by omega)).mono ?_
  rintro e w2 ⟨q, ⟨q0, q1⟩, rfl, hc2, hg2⟩
  have K4 := Lib.hid (K4.out.keepOne hg2 (by omega))
  have K5 := Lib.hid (K5.out.keepOne hg2 (by omega))
  have I2 := Lib.hid (I1.out.move (hg2.block g I1.out.lt (by simp; omega)))
  have F2 := Lib.hid (F1.out.trans (FrS.of_one hg2 (.inl rfl)))
  have C2 := Lib.hid hc2
  clear hc2 hg2 C1 F1 I1
  obtain ⟨q, rfl⟩ := Int.eq_ofNat_of_zero_le q0
  go_wp2_with fail
  go_loopw [7, 8, 9] (fun v7 _ _ wr => ∃ (q : Nat) (zs : List Int), v7 = .int .i64 q ∧ q ≤ 6 ∧ zs.length = N ∧ IntsC wr g N zs ∧ Cur wr cb ∧ FrS (fun k => k = cb ∨ k = g) w2 wr) (fun v7 _ _ _ => (intOf v7).toNat)
  case atStart => exact ⟨q, idL n n, rfl, by omega, HL.out, I2.out, C2.out, FrS.refl _ _⟩
  case round =>
    obtain ⟨q, zs, rfl, hq, hz, hi, hcu, hf⟩ := hrel
    have HZ := Lib.hid hz
    have I := Lib.hid hi
    have CU := Lib.hid hcu
    have FG := Lib.hid hf
    have lk4 := K4.out.lt
    have lk5 := K5.out.lt
    have lw2 := F2.out.size
    have K5r := Lib.hid (K5.out.frs FG.out (by omega))
    clear hz hi hcu hf
    by_cases hgo : 0 < q ∧ 1 < n
    · obtain ⟨q, rfl⟩ : ∃ p, q = p + 1 := ⟨q - 1, by omega⟩
      have n1 : decide ((0 : Int) < ((q + 1 : Nat) : Int)) = true := decide_eq_true (by omega)
      have vq : IntKind.i64.wrap (((q + 1 : Nat) : Int) - 1) = ((q + 1 : Nat) : Int) - 1 := IntWalk.i64_in _ (by omega)
      have n2 : decide ((1 : Int) < (n : Int)) = true := by simp; omega
      go_wp2_with fail
      refine (l1Below _ cb n CU.out (by omega)).mono ?_
      rintro e w3 ⟨i, ⟨i0, i1⟩, rfl, hc3, hg3⟩
      obtain ⟨i, rfl⟩ := Int.eq_ofNat_of_zero_le i0
      have K5r := Lib.hid (K5r.out.keepOne hg3 (by omega))
      have I := Lib.hid (I.out.move (hg3.block g I.out.lt (by simp; omega)))
      have FG := Lib.hid (FG.out.trans (FrS.of_one hg3 (.inl rfl)))
      have CU := Lib.hid hc3
      clear hc3 hg3
      go_wp2_with fail
      refine (l1Below _ cb 3 CU.out (by omega)).mono ?_
      rintro e w4 ⟨kd, ⟨k0, k1⟩, rfl, hc3, hg3⟩
      have K5r := Lib.hid (K5r.out.keepOne hg3 (by omega))
      have I := Lib.hid (I.out.move (hg3.block g I.out.lt (by simp; omega)))
      have FG := Lib.hid (FG.out.trans (FrS.of_one hg3 (.inl rfl)))
      have CU := Lib.hid hc3
      have v1 : IntKind.i64.wrap ((n : Int) - 1) = (n : Int) - 1 := IntWalk.i64_in _ (by omega)
      have v2 : IntKind.i64.wrap ((i : Int) + 1) = (i : Int) + 1 := IntWalk.i64_in _ (by omega)
      clear hc3 hg3
      go_wp2_with fail
      refine (l1Below _ cb _ CU.out (by omega)).mono ?_
      rintro e w5 ⟨r, ⟨r0, r1⟩, rfl, hc3, hg3⟩
      obtain ⟨r, rfl⟩ := Int.eq_ofNat_of_zero_le r0
      have K5r := Lib.hid (K5r.out.keepOne hg3 (by omega))
      have I := Lib.hid (I.out.move (hg3.block g I.out.lt (by simp; omega)))
      have FG := Lib.hid (FG.out.trans (FrS.of_one hg3 (.inl rfl)))
      have CU := Lib.hid hc3
      obtain ⟨j, hj⟩ : ∃ j, (i + 1 + r) % n = j := ⟨_, rfl⟩
      have jn : j < n := by rw [← hj]; exact Nat.mod_lt _ (by omega)
      have ij : i ≠ j := by
        rcases Nat.lt_or_ge (i + 1 + r) n with h | h
        · rw [Nat.mod_eq_of_lt h] at hj; omega
        · rw [Nat.mod_eq_sub_mod h, Nat.mod_eq_of_lt (by omega)] at hj; omega
      have v3 : IntKind.i64.wrap ((i : Int) + 1 + (r : Int)) = (i : Int) + 1 + (r : Int) := IntWalk.i64_in _ (by omega)
      have v4 : Int.tmod ((i : Int) + 1 + (r : Int)) (n : Int) = (j : Int) := by
        have e : (i : Int) + 1 + (r : Int) = ((i + 1 + r : Nat) : Int) := by omega
        rw [Int.tmod_eq_emod_of_nonneg (by omega), e, ← Int.natCast_emod, hj]
      have v5 : IntKind.i64.wrap (j : Int) = (j : Int) := IntWalk.i64_in _ (by omega)
      have nz : ((n : Int) == 0) = false := by simp; omega
      have nz0 : (n : Int) ≠ 0 := by omega
      clear hc3 hg3 hj
      have lx0 := FG.out.size
      have X9 : Hid (Blk4 (w5.alloc (.cells #[.int .i64 kd, .int .i64 i, .int .i64 j, .int .i64 0] 71)) w5.heap.size 71 (.int .i64 kd) (.int .i64 i) (.int .i64 j) (.int .i64 0)) := Blk4.at_ _ _ _ _ _ rfl
      have K5r := Lib.hid (K5r.out.old (.cells #[.int .i64 kd, .int .i64 i, .int .i64 j, .int .i64 0] 71))
      have FG := Lib.hid (FG.out.alloc (.cells #[.int .i64 kd, .int .i64 i, .int .i64 j, .int .i64 0] 71))
      have lcu := CU.out.lt
      have lgi := I.out.lt
      have I := Lib.hid (I.out.old (.cells #[.int .i64 kd, .int .i64 i, .int .i64 j, .int .i64 0] 71))
      have CU := Lib.hid (CU.out.alloc (.cells #[.int .i64 kd, .int .i64 i, .int .i64 j, .int .i64 0] 71))
      have lx := FG.out.size
      go_upto_region 7 with fail
      obtain ⟨xb, hxb⟩ : ∃ xb, w5.heap.size = xb := ⟨_, rfl⟩
      generalize w5.alloc (.cells #[.int .i64 kd, .int .i64 i, .int .i64 j, .int .i64 0] 71) = U at X9 K5r FG I CU ⊢
      rw [hxb] at X9 lx0 lcu lgi ⊢
      clear hxb
      obtain ⟨y0, y1, y2, -, -, -⟩ := K5r.out.all
      rcases (show kd = 0 ∨ kd = 1 ∨ kd = 2 by omega) with rfl | rfl | rfl
      · obtain ⟨x0, x1, x2, x3⟩ := X9.out.all
        go_wp2_with fail
        refine (sDoC n n i j g N N 0 0 zs _ I.out HZ.out HN.out.symm (by omega) (by omega) (by omega) (by omega) (.inl rfl) (fun _ => ij)).mono ?_
        rintro e w6 ⟨rfl, hi6, hg6⟩
        have I6 := Lib.hid hi6
        have F6 := Lib.hid (FG.out.trans (FrS.of_one hg6 (.inr rfl)))
        have C6 := Lib.hid (CU.out.frs (FrS.of_one (p := fun k => k = g) hg6 rfl) (fun k hk => by omega))
        clear hi6 hg6
        go_wp2_with fail
        go_roundw
        case rel => exact ⟨q, opL 0 i j 0 n zs, by go_num, by omega, by rw [opL_length]; exact HZ.out, I6.out, C6.out, F6.out⟩
        case measure => simp [intOf] <;> omega
      · obtain ⟨x0, x1, x2, x3⟩ := X9.out.all
        have f2 := X9.out.free 2
        go_upto_region 9 with fail
        clear x0 x1 x2 x3 y0 y1 y2
        have X9 := Lib.hid (X9.out.setJ (.int .i64 i))
        have K5r := Lib.hid (K5r.out.far (a := ⟨xb, 2, none⟩) (by show ob ≠ xb; omega) (.int .i64 i))
        have I := Lib.hid (I.out.far (a := ⟨xb, 2, none⟩) (by show g ≠ xb; omega) (.int .i64 i))
        have CU := Lib.hid (CU.out.setFar (x := ⟨xb, 2, none⟩) (by show cb < xb; omega) (.int .i64 i))
        have FG := Lib.hid (FG.out.set (a := ⟨xb, 2, none⟩) (.inr lx0) (.int .i64 i))
        obtain ⟨x0, x1, x2, x3⟩ := X9.out.all
        obtain ⟨y0, y1, y2, -, -, -⟩ := K5r.out.all
        go_wp2_with fail
        refine (sDoC n n i i g N N 1 0 zs _ I.out HZ.out HN.out.symm (by omega) (by omega) (by omega) (by omega) (.inr (.inl rfl)) (fun h => absurd h (by decide))).mono ?_
        rintro e w6 ⟨rfl, hi6, hg6⟩
        have I6 := Lib.hid hi6
        have F6 := Lib.hid (FG.out.trans (FrS.of_one hg6 (.inr rfl)))
        have C6 := Lib.hid (CU.out.frs (FrS.of_one (p := fun k => k = g) hg6 rfl) (fun k hk => by omega))
        clear hi6 hg6
        go_wp2_with fail
        go_roundw
        case rel => exact ⟨q, opL 1 i i 0 n zs, by go_num, by omega, by rw [opL_length]; exact HZ.out, I6.out, C6.out, F6.out⟩
        case measure => simp [intOf] <;> omega
      · obtain ⟨x0, x1, x2, x3⟩ := X9.out.all
        go_wp2_with fail
        refine (l1Below _ cb 5 CU.out (by omega)).mono ?_
        rintro e w7 ⟨s, ⟨s0, s1⟩, rfl, hc3, hg3⟩
        have X9 := Lib.hid (X9.out.frs (FrS.of_one (p := fun k => k = cb) hg3 rfl) (by show ¬ xb = cb; omega))
        have K5r := Lib.hid (K5r.out.keepOne hg3 (by omega))
        have I := Lib.hid (I.out.move (hg3.block g I.out.lt (by simp; omega)))
        have FG := Lib.hid (FG.out.trans (FrS.of_one hg3 (.inl rfl)))
        have CU := Lib.hid hc3
        have vs : IntKind.i64.wrap (s - 2) = s - 2 := IntWalk.i64_in _ (by omega)
        have f3 := X9.out.free 3
        clear hc3 hg3 x0 x1 x2 x3 y0 y1 y2
        obtain ⟨x0, x1, x2, x3⟩ := X9.out.all
        go_upto_region 11 with fail
        clear x0 x1 x2 x3
        have X9 := Lib.hid (X9.out.setT (.int .i64 (s - 2)))
        have K5r := Lib.hid (K5r.out.far (a := ⟨xb, 3, none⟩) (by show ob ≠ xb; omega) (.int .i64 (s - 2)))
        have I := Lib.hid (I.out.far (a := ⟨xb, 3, none⟩) (by show g ≠ xb; omega) (.int .i64 (s - 2)))
        have CU := Lib.hid (CU.out.setFar (x := ⟨xb, 3, none⟩) (by show cb < xb; omega) (.int .i64 (s - 2)))
        have FG := Lib.hid (FG.out.set (a := ⟨xb, 3, none⟩) (.inr lx0) (.int .i64 (s - 2)))
        obtain ⟨x0, x1, x2, x3⟩ := X9.out.all
        obtain ⟨y0, y1, y2, -, -, -⟩ := K5r.out.all
        go_wp2_with fail
        refine (sDoC n n i j g N N 2 (s - 2) zs _ I.out HZ.out HN.out.symm (by omega) (by omega) (by omega) (by omega) (.inr (.inr rfl)) (fun h => absurd h (by decide))).mono ?_
        rintro e w6 ⟨rfl, hi6, hg6⟩
        have I6 := Lib.hid hi6
        have F6 := Lib.hid (FG.out.trans (FrS.of_one hg6 (.inr rfl)))
        have C6 := Lib.hid (CU.out.frs (FrS.of_one (p := fun k => k = g) hg6 rfl) (fun k hk => by omega))
        clear hi6 hg6
        go_wp2_with fail
        go_roundw
        case rel => exact ⟨q, opL 2 i j (s - 2) n zs, by go_num, by omega, by rw [opL_length]; exact HZ.out, I6.out, C6.out, F6.out⟩
        case measure => simp [intOf] <;> omega
    · have K4 := Lib.hid (K4.out.frs FG.out (by omega))
      have FT := Lib.hid (F2.out.trans (FG.out.mono2 (q := fun k => k = cb ∨ w.heap.size ≤ k) (fun k _ hk => by omega)))
      obtain ⟨y0, y1, y2, -, -, -⟩ := K5r.out.all
      obtain ⟨z0, z1, z2, f0, f1, f2⟩ := K4.out.all
      have FIN : Hid (UniMat n cb w (.returned (.agg #[.int .i64 n, .int .i64 n, .slice (some ⟨g, 0, none⟩) N N])) (((wr.setCell ⟨w.heap.size, 0, none⟩ (.int .i64 n)).setCell ⟨w.heap.size, 1, none⟩ (.int .i64 n)).setCell ⟨w.heap.size, 2, none⟩ (.slice (some ⟨g, 0, none⟩) N N))) := by
        refine ⟨g, zs, by rw [HN.out], by omega, by rw [HN.out]; exact HZ.out, ?_, ?_, FT.out.set3 (.inr (Nat.le_refl _)) _ _ _⟩
        · rw [HN.out]
          exact ((I.out.far (by show g ≠ w.heap.size; omega) _).far (by show g ≠ w.heap.size; omega) _).far (by show g ≠ w.heap.size; omega) _
        · exact ((CU.out.setFar (by show cb < w.heap.size; omega) _).setFar (by show cb < w.heap.size; omega) _).setFar (by show cb < w.heap.size; omega) _
      obtain ⟨E0, E1, E2, -, -, -⟩ := (((K4.out.set0 (.int .i64 n)).set1 (.int .i64 n)).set2 (.slice (some ⟨g, 0, none⟩) N N)).all
      rcases Nat.eq_zero_or_pos q with hq0 | hq0
      · have n1 : decide ((0 : Int) < (q : Int)) = false := by simp; omega
        go_wp2_with fail
        exact bodyPost_ret (v := .agg #[.int .i64 n, .int .i64 n, .slice (some ⟨g, 0, none⟩) N N]) (by simp [results, Try.results71, go_sem, E0, E1, E2]) rfl FIN.out
      · have n1 : decide ((0 : Int) < (q : Int)) = true := by simp; omega
        have n2 : decide ((1 : Int) < (n : Int)) = false := by simp; omega
        go_wp2_with fail
        exact bodyPost_ret (v := .agg #[.int .i64 n, .int .i64 n, .slice (some ⟨g, 0, none⟩) N N]) (by simp [results, Try.results71, go_sem, E0, E1, E2]) rfl FIN.out
end Go.Proofs.Ytbdofgkcedpamaa
end

section
/-
  What the drawing of two matrices gives.
-/
namespace Go.Proofs.Ytbdofgkcedpamaa
open Go.RowKit

/-- Two matrices of whatever kind, in memory of the call's own. -/
def TwoMats (w : World) (e : Ending) (w' : World) : Prop := ∃ (r c : Int) (v : Value) (xs : List Int) (r' c' : Int) (v' : Value) (ys : List Int), e = .returned (.tuple #[.agg #[.int .i64 r, .int .i64 c, v], .agg #[.int .i64 r', .int .i64 c', v']]) ∧ Own w.heap.size w' v xs ∧ Own w.heap.size w' v' ys ∧ xs.length ≤ 601 ∧ ys.length ≤ 601 ∧ Below w.heap.size w w'
end Go.Proofs.Ytbdofgkcedpamaa
end

section
/-
  Chapter 3, in the model: l3Mul of cells of which nothing is known.
-/
namespace Go.Proofs.Ytbdofgkcedpamaa
open Go.RowKit

/-- A new matrix of some cells. -/
def NewAny (R C : Nat) (w : World) (e : Ending) (w' : World) : Prop := ∃ zs : List Int, zs.length = R * C ∧ NewMat R C zs w e w'
set_option maxRecDepth 100000 in
set_option maxHeartbeats 1500000 in
theorem sMulW (R K C : Nat) (a b : Option Addr) (m n : Nat) (xs ys : List Int) (w : World) (h : Rd w a xs) (h' : Rd w b ys) (hR : R ≤ 24) (hK : K ≤ 24) (hC : C ≤ 24) (hx : xs.length = R * K) (hy : ys.length = K * C) :
    Calls Try.prog 70 #[.agg #[.int .i64 R, .int .i64 K, .slice a xs.length m], .agg #[.int .i64 K, .int .i64 C, .slice b ys.length n]] w (NewAny R C w) := by
  have hle : R * C ≤ 24 * 24 := Nat.mul_le_mul hR hC
  have B0 : ∀ o1 o2 o3, Below w.heap.size w (((w.alloc o1).alloc o2).alloc o3) := fun o1 o2 o3 => (((Below.refl _ _).alloc (Nat.le_refl _) _).alloc (by simp) _).alloc (by simp <;> omega) _
  have BH := Lib.hid B0
  have H := Lib.hid h
  have H' := Lib.hid h'
  obtain ⟨N, hN⟩ : ∃ N, R * C = N := ⟨_, rfl⟩
  obtain ⟨NA, hNA⟩ : ∃ NA, R * K = NA := ⟨_, rfl⟩
  obtain ⟨NB, hNB⟩ : ∃ NB, K * C = NB := ⟨_, rfl⟩
  have hle1 : NA ≤ 24 * 24 := by rw [← hNA]; exact Nat.mul_le_mul hR hK
  have hle2 : NB ≤ 24 * 24 := by rw [← hNB]; exact Nat.mul_le_mul hK hC
  rw [hNA] at hx
  rw [hNB] at hy
  rw [hN] at hle
  have HX := Lib.hid hx
  have HY := Lib.hid hy
  have HN := Lib.hid hN
  have HNA := Lib.hid hNA
  have HNB := Lib.hid hNB
  rw [hx, hy]
  clear B0 h h' hx hy hN hNA hNB
  go_enter Try.func70, Try.ntmps70
  go_wp2_with fail
  refine (sNew R C _ (by omega) (by omega)).mono ?_
  rintro e w1 ⟨g, rfl, hg, hi, hb⟩
  rw [HN.out] at hi ⊢
  simp only [List.length_replicate]
  have K0 : Hid (Blk3 w1 w.heap.size 26 (.int .i64 R) (.int .i64 K) (.slice a NA m)) := (((Blk3.at_ _ _ _ _ rfl).old _).old _).keep hb (by simp <;> omega)
  have K1 : Hid (Blk3 w1 (w.heap.size + 1) 26 (.int .i64 K) (.int .i64 C) (.slice b NB n)) := ((Blk3.at_ _ _ _ _ (by simp)).old _).keep hb (by simp <;> omega)
  have K2 : Hid (Blk3 w1 (w.heap.size + 1 + 1) 26 (.int .i64 0) (.int .i64 0) (.slice none 0 0)) := (Blk3.at_ _ _ _ _ (by simp)).keep hb (by simp)
  have B : Hid (Below w.heap.size w w1) := (BH.out _ _ _).trans (hb.mono (by simp <;> omega))
  have l1 : w.heap.size + 1 + 1 < g := by simp at hg; omega
  have gl := hi.lt
  have I := Lib.hid (hi.old (.cells #[.int .i64 R, .int .i64 C, .slice (some ⟨g, 0, none⟩) N N] 26))
  have BA : Hid (Below w.heap.size w (w1.alloc (.cells #[.int .i64 R, .int .i64 C, .slice (some ⟨g, 0, none⟩) N N] 26))) := B.out.alloc B.out.size _
  have K0 := Lib.hid (K0.out.old (.cells #[.int .i64 R, .int .i64 C, .slice (some ⟨g, 0, none⟩) N N] 26))
  have K1 := Lib.hid (K1.out.old (.cells #[.int .i64 R, .int .i64 C, .slice (some ⟨g, 0, none⟩) N N] 26))
  have K2 := Lib.hid (K2.out.old (.cells #[.int .i64 R, .int .i64 C, .slice (some ⟨g, 0, none⟩) N N] 26))
  have K5 : Hid (Blk3 (w1.alloc (.cells #[.int .i64 R, .int .i64 C, .slice (some ⟨g, 0, none⟩) N N] 26)) w1.heap.size 26 (.int .i64 R) (.int .i64 C) (.slice (some ⟨g, 0, none⟩) N N)) := Blk3.at_ _ _ _ _ rfl
  clear hb hi hg
  go_wp2_with fail
  go_loopw [6] (fun i wr => ∃ (r : Nat) (zs : List Int), i = .int .i64 r ∧ r ≤ R ∧ zs.length = N ∧ Ints wr g zs ∧ (w1.alloc (.cells #[.int .i64 R, .int .i64 C, .slice (some ⟨g, 0, none⟩) N N] 26)).grownBy wr (some g)) (fun i _ => R - (intOf i).toNat)
  case atStart => exact ⟨0, _, rfl, by omega, by simp, I.out, World.grownBy.refl _ _⟩
  case round =>
    obtain ⟨r, zs, rfl, hr, ht, hi, hgr⟩ := hrel
    have T := Lib.hid ht
    have I := Lib.hid hi
    have G := Lib.hid hgr
    clear ht hi hgr
    have R0 := Lib.hid (K0.out.keepOne G.out (by omega))
    have R1 := Lib.hid (K1.out.keepOne G.out (by omega))
    have R2 := Lib.hid (K2.out.keepOne G.out (by omega))
    have R5 := Lib.hid (K5.out.keepOne G.out (by omega))
    obtain ⟨p0, p1, p2, -, -, -⟩ := R0.out.all
    obtain ⟨q0, q1, q2, -, -, -⟩ := R1.out.all
    obtain ⟨r0, r1, r2, -, -, -⟩ := R5.out.all
    by_cases hlt : r < R
    · go_wp2_with fail
      go_loopw [7] (fun j wq => ∃ (c : Nat) (us : List Int), j = .int .i64 c ∧ c ≤ C ∧ us.length = N ∧ Ints wq g us ∧ (w1.alloc (.cells #[.int .i64 R, .int .i64 C, .slice (some ⟨g, 0, none⟩) N N] 26)).grownBy wq (some g)) (fun j _ => C - (intOf j).toNat)
      case atStart => exact ⟨0, zs, rfl, by omega, T.out, I.out, G.out⟩
      case round =>
        obtain ⟨c, us, rfl, hc, ht, hi, hgr⟩ := hrel
        have T' := Lib.hid ht
        have I' := Lib.hid hi
        have G' := Lib.hid hgr
        clear ht hi hgr p0 p1 p2 q0 q1 q2 r0 r1 r2
        have S0 := Lib.hid (K0.out.keepOne G'.out (by omega))
        have S1 := Lib.hid (K1.out.keepOne G'.out (by omega))
        have S5 := Lib.hid (K5.out.keepOne G'.out (by omega))
        obtain ⟨p0, p1, p2, -, -, -⟩ := S0.out.all
        obtain ⟨q0, q1, q2, -, -, -⟩ := S1.out.all
        obtain ⟨r0, r1, r2, -, -, -⟩ := S5.out.all
        by_cases hlc : c < C
        · go_wp2_with fail
          go_loopw [8, 9] (fun s t wk => ∃ k : Nat, t = .int .i64 k ∧ (∃ D : Int, s = .int .i64 D) ∧ k ≤ K ∧ ∃ q, wk = wr.drewN q) (fun _ t _ => K - (intOf t).toNat)
          case atStart => exact ⟨0, rfl, ⟨_, rfl⟩, by omega, 0, rfl⟩
          case round =>
            obtain ⟨k, rfl, ⟨D, rfl⟩, hk, d, rfl⟩ := hrel
            by_cases hlk : k < K
            · have i1 : r * K + k < NA := by rw [← HNA.out]; exact idx_lt hlt hlk
              have i2 : k * C + c < NB := by rw [← HNB.out]; exact idx_lt hlk hlc
              obtain ⟨x, hx⟩ : ∃ x, xs.getD (r * K + k) 0 = x := ⟨_, rfl⟩
              obtain ⟨y, hy⟩ : ∃ y, ys.getD (k * C + c) 0 = y := ⟨_, rfl⟩
              obtain ⟨x1, o1, rfl, hc1⟩ := H.out (r * K + k) (by rw [HX.out]; exact i1)
              obtain ⟨x2, o2, rfl, hc2⟩ := H'.out (k * C + c) (by rw [HY.out]; exact i2)
              have u1 := World.block_lt_of_cell? w _ hc1
              have u2 := World.block_lt_of_cell? w _ hc2
              have hc1 := G'.out.cell ((BA.out.cell (p := ⟨x1, o1 + (r * K + k), none⟩) u1).trans hc1) (by simp; simp at u1; omega)
              have hc2 := G'.out.cell ((BA.out.cell (p := ⟨x2, o2 + (k * C + c), none⟩) u2).trans hc2) (by simp; simp at u2; omega)
              rw [hx] at hc1
              rw [hy] at hc2
              have c1 : (r : Int) * (K : Int) = ((r * K : Nat) : Int) := (Int.natCast_mul _ _).symm
              have c2 : (k : Int) * (C : Int) = ((k * C : Nat) : Int) := (Int.natCast_mul _ _).symm
              have d1 : 0 ≤ (r : Int) * (K : Int) ∧ (r : Int) * (K : Int) ≤ 600 := by rw [c1]; omega
              have d2 : 0 ≤ (k : Int) * (C : Int) ∧ (k : Int) * (C : Int) ≤ 600 := by rw [c2]; omega
              have e1 : 0 ≤ (r : Int) * (K : Int) + (k : Int) := by omega
              have e2 : (r : Int) * (K : Int) + (k : Int) < (NA : Int) := by rw [c1]; omega
              have e3 : ((r : Int) * (K : Int) + (k : Int)).toNat = r * K + k := by rw [c1]; omega
              have e4 : 0 ≤ (k : Int) * (C : Int) + (c : Int) := by omega
              have e5 : (k : Int) * (C : Int) + (c : Int) < (NB : Int) := by rw [c2]; omega
              have e6 : ((k : Int) * (C : Int) + (c : Int)).toNat = k * C + c := by rw [c2]; omega
              obtain ⟨d11, d12⟩ := d1
              obtain ⟨d21, d22⟩ := d2
              have v1 : IntKind.i64.wrap ((r : Int) * (K : Int)) = (r : Int) * (K : Int) := IntWalk.i64_in _ (by omega)
              have v2 : IntKind.i64.wrap ((r : Int) * (K : Int) + (k : Int)) = (r : Int) * (K : Int) + (k : Int) := IntWalk.i64_in _ (by omega)
              have v3 : IntKind.i64.wrap ((k : Int) * (C : Int)) = (k : Int) * (C : Int) := IntWalk.i64_in _ (by omega)
              have v4 : IntKind.i64.wrap ((k : Int) * (C : Int) + (c : Int)) = (k : Int) * (C : Int) + (c : Int) := IntWalk.i64_in _ (by omega)
              obtain ⟨z1, v5⟩ : ∃ z, IntKind.i64.wrap (x * y) = z := ⟨_, rfl⟩
              obtain ⟨z2, v6⟩ : ∃ z, IntKind.i64.wrap (D + z1) = z := ⟨_, rfl⟩
              clear hx hy u1 u2 c1 c2
              go_wp2_with fail
              go_quiet (fail)
              go_wp2_with fail
              go_roundw
              case rel =>
                exact ⟨k + 1, by go_num, ⟨_, rfl⟩, by omega, _, rfl⟩
              case measure => simp [intOf]; omega
            · have hkn : k = K := by omega
              subst hkn
              have i1 : r * C + c < N := by rw [← HN.out]; exact idx_lt hlt hlc
              have hold := I'.out.cell (i := r * C + c) (by rw [T'.out]; exact i1)
              have hfr := I'.out.free (r * C + c)
              have c1 : (r : Int) * (C : Int) = ((r * C : Nat) : Int) := (Int.natCast_mul _ _).symm
              have d1 : 0 ≤ (r : Int) * (C : Int) ∧ (r : Int) * (C : Int) ≤ 600 := by rw [c1]; omega
              have e1 : 0 ≤ (r : Int) * (C : Int) + (c : Int) := by omega
              have e2 : (r : Int) * (C : Int) + (c : Int) < (N : Int) := by rw [c1]; omega
              have e3 : ((r : Int) * (C : Int) + (c : Int)).toNat = r * C + c := by rw [c1]; omega
              obtain ⟨d11, d12⟩ := d1
              clear c1
              go_wp2_with fail
              go_roundw
              case rel =>
                refine ⟨c + 1, us.set (r * C + c) D, by go_num, by omega, by rw [List.length_set]; exact T'.out, ?_, ?_⟩
                · exact (I'.out.drewN d).set (r * C + c) D
                · exact grown_set_one (grown_drewN_one G'.out d) rfl _
              case measure => simp [intOf]; omega
        · have hqn : c = C := by omega
          subst hqn
          go_wp2_with fail
          go_roundw
          case rel => exact ⟨r + 1, us, by go_num, by omega, T'.out, I'.out, G'.out⟩
          case measure => simp [intOf]; omega
    · have hkn : r = R := by omega
      have TX := T
      have IX := I
      have GX := G
      subst hkn
      have BX := Lib.hid (BA.out.trans (below_of_one GX.out (by omega) BA.out.size))
      obtain ⟨s0, s1, s2, t0, t1, t2⟩ := R2.out.all
      go_wp2_with fail
      obtain ⟨E0, E1, E2, -, -, -⟩ := (((R2.out.set0 (.int .i64 r)).set1 (.int .i64 C)).set2 (.slice (some ⟨g, 0, none⟩) N N)).all
      have FIN : Hid (NewAny r C w (.returned (.agg #[.int .i64 r, .int .i64 C, .slice (some ⟨g, 0, none⟩) N N])) (((wr.setCell ⟨w.heap.size + 1 + 1, 0, none⟩ (.int .i64 r)).setCell ⟨w.heap.size + 1 + 1, 1, none⟩ (.int .i64 C)).setCell ⟨w.heap.size + 1 + 1, 2, none⟩ (.slice (some ⟨g, 0, none⟩) N N))) := by
        refine ⟨zs, by rw [HN.out]; exact TX.out, g, by rw [TX.out], by omega, ?_, ?_⟩
        · exact ((IX.out.far (by show g ≠ w.heap.size + 1 + 1; omega) _).far (by show g ≠ w.heap.size + 1 + 1; omega) _).far (by show g ≠ w.heap.size + 1 + 1; omega) _
        · exact ((BX.out.setCell (by show w.heap.size ≤ w.heap.size + 1 + 1; omega) _).setCell (by show w.heap.size ≤ w.heap.size + 1 + 1; omega) _).setCell (by show w.heap.size ≤ w.heap.size + 1 + 1; omega) _
      exact bodyPost_ret (v := .agg #[.int .i64 r, .int .i64 C, .slice (some ⟨g, 0, none⟩) N N]) (by simp [results, Try.results70, go_sem, E0, E1, E2]) rfl FIN.out
end Go.Proofs.Ytbdofgkcedpamaa
end

section
/-
  The drawing of two matrices whose rows may span the same.
-/
namespace Go.Proofs.Ytbdofgkcedpamaa
set_option maxRecDepth 100000
open Go.RowKit

theorem l6UniI (w : World) (cb : Nat) (r : Int) (n : Nat) (e : r = n) (hc : Cur w cb) (hn : n ≤ 24) : Calls Try.prog 71 #[.pointer (some ⟨cb, 0, none⟩), .int .i64 r] w (UniMat n cb w) := by
  subst e
  exact l6Uni w cb n hc hn
theorem sMulWN (R C la lb : Nat) (r c : Int) (er : r = R) (ec : c = C) (a b : Option Addr) (m n : Nat) (zs xs : List Int) (w : World) (h : Rd w a zs) (h' : Rd w b xs) (hR : R ≤ 24) (hR2 : R ≤ 24) (hC : C ≤ 24) (hz : zs.length = R * R) (hx : xs.length = R * C) (e1 : zs.length = la) (e2 : xs.length = lb) :
    Calls Try.prog 70 #[.agg #[.int .i64 R, .int .i64 R, .slice a la m], .agg #[.int .i64 r, .int .i64 c, .slice b lb n]] w (NewAny R C w) := by
  subst e1 e2 er ec
  exact sMulW R R C a b m n zs xs w h h' hR hR2 hC hz hx
set_option maxHeartbeats 4000000 in
theorem drawSp (w : World) (a : Option Addr) (len cap : Nat) (hc : CodeIn w a len) : Calls Try.prog 35 #[.slice a len cap] w (TwoMats w) := by
  have HC := Lib.hid hc
  clear hc
  go_enter Try.func35, Try.ntmps35
  go_wp2_with fail
  refine (l1New _ a len cap (HC.out.below (((Below.refl _ _).alloc (Nat.le_refl _) _).alloc (by simp) _))).mono ?_
  rintro e w1 ⟨cb, rfl, hcb, hc1, hb1⟩
  have CB : w.heap.size + 1 < cb := by simp at hcb; exact hcb
  have K2 : Hid (Blk3 w1 w.heap.size 26 (.int .i64 0) (.int .i64 0) (.slice none 0 0)) := ((Blk3.at_ _ _ _ _ rfl).old _).keep hb1 (by simp; omega)
  have K3 : Hid (Blk3 w1 (w.heap.size + 1) 26 (.int .i64 0) (.int .i64 0) (.slice none 0 0)) := (Blk3.at_ _ _ _ _ (by simp)).keep hb1 (by simp)
  have F1 : Hid (FrS (fun k => w.heap.size ≤ k) w w1) := (((FrS.refl _ w).alloc _).alloc _).trans (FrS.of_below hb1)
  have C1 := Lib.hid hc1
  clear hcb hc1 hb1
  go_wp2_with fail
  refine (l3Any _ cb C1.out).mono ?_
  rintro e w2 ⟨r, c, v, xs, rfl, own, hl, hc2, hf⟩
  obtain ⟨q, qc, rfl, hrd, -⟩ := (own.own (by omega)).form
  obtain ⟨n, hn⟩ : ∃ n, xs.length = n := ⟨_, rfl⟩
  have HN := Lib.hid hn
  have hl : n ≤ 600 := by omega
  rw [hn] at own ⊢
  have NG : ∀ g0 : Nat, q = some ⟨g0, 0, none⟩ → w1.heap.size ≤ g0 ∧ g0 < w2.heap.size := by
    intro g0 e
    rcases own with ⟨h, -⟩ | ⟨g, cap, hv, hB, hi⟩
    · injection h with h1; rw [h1] at e; cases e
    · injection hv with h1
      rw [h1] at e
      injection e with e
      injection e with e
      subst e
      exact ⟨hB, hi.lt⟩
  have ls := F1.out.size
  have lk := K3.out.lt
  have K2 := Lib.hid ((K2.out.frs hf (by omega)).old (.cells #[.int .i64 r, .int .i64 c, .slice q n qc] 26))
  have K3 := Lib.hid ((K3.out.frs hf (by omega)).old (.cells #[.int .i64 r, .int .i64 c, .slice q n qc] 26))
  have K5 : Hid (Blk3 (w2.alloc (.cells #[.int .i64 r, .int .i64 c, .slice q n qc] 26)) w2.heap.size 26 (.int .i64 r) (.int .i64 c) (.slice q n qc)) := Blk3.at_ _ _ _ _ rfl
  have C2 := Lib.hid (hc2.alloc (.cells #[.int .i64 r, .int .i64 c, .slice q n qc] 26))
  have O2 : Hid (OwnC w1.heap.size (w2.alloc (.cells #[.int .i64 r, .int .i64 c, .slice q n qc] 26)) (.slice q n qc) xs) := own.frs ((FrS.refl (fun _ => False) w2).alloc _) (fun _ _ h => h)
  have F2 := Lib.hid ((F1.out.trans (hf.mono2 (q := fun k => w.heap.size ≤ k) (fun k _ hk => by omega))).alloc (.cells #[.int .i64 r, .int .i64 c, .slice q n qc] 26))
  have lc1 := C1.out.lt
  have l5 := hc2.lt
  have l12 := hf.size
  clear own hn hc2 hf hrd C1 F1
  obtain ⟨x0, x1, x2, -, -, -⟩ := K5.out.all
  go_wp2_with fail
  have ST := sIsMat r c q qc xs _ (by have h := (O2.out.own (by rw [HN.out]; omega)).form; obtain ⟨a', c', e', r', -⟩ := h; injection e' with e1 e2 e3; rw [e1]; exact r') (by rw [HN.out]; omega)
  rw [HN.out] at ST
  refine ST.mono ?_
  clear ST
  rintro e w4 ⟨rfl, hb⟩
  have K2 := Lib.hid (K2.out.step hb)
  have K3 := Lib.hid (K3.out.step hb)
  have K5 := Lib.hid (K5.out.step hb)
  have O2 := Lib.hid (O2.out.frs2 (FrS.of_below (p := fun _ => False) hb) (fun _ _ _ h => h))
  have F2 := Lib.hid (F2.out.trans (FrS.of_below hb))
  have C2 := Lib.hid (C2.out.grown (grown_of_below hb none) (by simp))
  clear hb x0 x1 x2
  obtain ⟨x0, x1, x2, -, -, -⟩ := K5.out.all
  rcases Bool.eq_false_or_eq_true (isMat r c xs) with hm | hm
  · rw [hm]
    obtain ⟨⟨r1, r2⟩, ⟨c1, c2⟩, lx, -⟩ := isMat_says hm
    obtain ⟨R, hRr⟩ := Int.eq_ofNat_of_zero_le r1
    obtain ⟨C, hCc⟩ := Int.eq_ofNat_of_zero_le c1
    have hR : R ≤ 24 := by omega
    have hC : C ≤ 24 := by omega
    have HX : Hid (xs.length = R * C) := by show xs.length = R * C; rw [hRr, hCc, ← Int.natCast_mul] at lx; omega
    have ER := Lib.hid hRr
    have EC := Lib.hid hCc
    clear hm lx r1 r2 c1 c2 hRr hCc
    go_wp2_with fail
    refine (l1Once _ cb 2 C2.out (by omega)).mono ?_
    rintro e w5' ⟨b, rfl, hc3, hg3⟩
    have K2 := Lib.hid (K2.out.keepOne hg3 (by omega))
    have K3 := Lib.hid (K3.out.keepOne hg3 (by omega))
    have K5 := Lib.hid (K5.out.keepOne hg3 (by omega))
    have O2 := Lib.hid (O2.out.frs (FrS.of_one (p := fun k => k = cb) hg3 rfl) (fun k hk => by omega))
    have F2 := Lib.hid (F2.out.trans (FrS.of_one hg3 (show w.heap.size ≤ cb by omega)))
    have C2 := Lib.hid hc3
    clear hc3 hg3 x0 x1 x2
    obtain ⟨x0, x1, x2, -, -, -⟩ := K5.out.all
    cases b with
    | true =>
      go_upto_region 4 with fail
      refine wp_region_held_drew (S := fun w' => FrS (fun k => k = cb ∨ k = w.heap.size ∨ k = w.heap.size + 1) w5' w') (by kernel_rfl) (FrS.refl _ _).drew (fun hH => ?_)
      refine wpAnyH_take (i := 0) (v := ?_) (by simp only [List.getElem?_toArray, List.getElem?_cons_zero]; rfl) (by kernel_rfl) (by kernel_rfl) (by kernel_rfl) (by exact fun _ _ _ h => h) (Or.inl ⟨by rfl, ?_⟩) hH ?_
      rotate_left
      · (intro wS hS; (try dsimp only at hS); obtain ⟨k1, k2, k3⟩ := sevenF K5.out hS (by omega); go_simp; try rfl)
      try simp only [Act.put, List.setIfInBounds_toArray, List.set_cons_zero, List.set_cons_succ]
      refine wpAnyH_take (i := 1) (v := ?_) (by simp only [List.getElem?_toArray, List.getElem?_cons_succ, List.getElem?_cons_zero]; rfl) (by kernel_rfl) (by kernel_rfl) (by kernel_rfl) (by exact fun _ _ _ h => h) (Or.inl ⟨by rfl, ?_⟩) hH ?_
      rotate_left
      · (intro wS hS; clear hS; go_simp; try rfl)
      try simp only [Act.put, List.setIfInBounds_toArray, List.set_cons_zero, List.set_cons_succ]
      refine wpAnyH_take (i := 2) (v := ?_) (by simp only [List.getElem?_toArray, List.getElem?_cons_succ, List.getElem?_cons_zero]; rfl) (by kernel_rfl) (by kernel_rfl) (by kernel_rfl) (by exact fun _ _ _ h => h) (Or.inl ⟨by rfl, ?_⟩) hH ?_
      rotate_left
      · (intro wS hS; clear hS; go_simp; try rfl)
      try simp only [Act.put, List.setIfInBounds_toArray, List.set_cons_zero, List.set_cons_succ]
      refine wpAnyH_take (i := 3) (v := ?_) (by simp only [List.getElem?_toArray, List.getElem?_cons_succ, List.getElem?_cons_zero]; rfl) (by kernel_rfl) (by kernel_rfl) (by kernel_rfl) (by exact fun _ _ _ h => h) (Or.inl ⟨by rfl, ?_⟩) hH ?_
      rotate_left
      · (intro wS hS; (try dsimp only at hS); obtain ⟨k1, k2, k3⟩ := sevenF K5.out hS (by omega); go_simp; try rfl)
      try simp only [Act.put, List.setIfInBounds_toArray, List.set_cons_zero, List.set_cons_succ]
      refine wpAnyH_take (i := 5) (v := ?_) (by simp only [List.getElem?_toArray, List.getElem?_cons_succ, List.getElem?_cons_zero]; rfl) (by kernel_rfl) (by kernel_rfl) (by kernel_rfl) (by exact fun _ _ _ h => h) (Or.inl ⟨by rfl, ?_⟩) hH ?_
      rotate_left
      · (intro wS hS; (try dsimp only at hS); obtain ⟨k1, k2, k3⟩ := sevenF K5.out hS (by omega); go_simp; try rfl)
      try simp only [Act.put, List.setIfInBounds_toArray, List.set_cons_zero, List.set_cons_succ]
      refine wpAnyH_ready (rs := [4]) (by kernel_rfl) (by simp) ?_
      refine AllReadyH.cons (by simp only [List.getElem?_toArray, List.getElem?_cons_succ, List.getElem?_cons_zero]; rfl) (fun KK hKK => ?_) AllReadyH.nil
      go_simp
      refine (l6UniI _ cb r R ER.out (by exact C2.out) hR).mono ?_
      rintro e w5 ⟨g, zs, rfl, hg, hz, hi, hc9, hf⟩
      have hf : FrS (fun k => k = cb ∨ w5'.heap.size ≤ k) w5' w5 := ((FrS.refl _ w5').drew).trans hf
      have FX : Hid (FrS (fun k => k = cb ∨ k = w.heap.size ∨ k = w.heap.size + 1) w5' w5) := (hf.mono2 (fun k hk h => by omega))
      have lw := F2.out.size
      have s2 := K3.out.lt
      have s5 := K5.out.lt
      have K2 := Lib.hid (K2.out.frs hf (by omega))
      have K3 := Lib.hid (K3.out.frs hf (by omega))
      have O2 := Lib.hid (O2.out.frs2 hf (fun k hk hk2 => by omega))
      have ZI := Lib.hid hi.ints.rd
      have HZ := Lib.hid hz
      have l5 := hf.size
      clear hi hz hc9 hf
      try dsimp only
      refine hKK.out _ _ ?_ (fun hH2 => ?_)
      · exact FX.out
      clear hKK KK
      have hO := hH
      clear hH
      have hH := hH2
      clear hH2
      try simp only [Act.put, List.setIfInBounds_toArray, List.set_cons_zero, List.set_cons_succ]
      refine wpAnyH_ready (rs := [6]) (by kernel_rfl) (by simp) ?_
      refine AllReadyH.cons (by simp only [List.getElem?_toArray, List.getElem?_cons_succ, List.getElem?_cons_zero]; rfl) (fun KK hKK => ?_) AllReadyH.nil
      go_simp
      refine (sMulWN R C (R * R) n r c ER.out EC.out (some ⟨g, 0, none⟩) q (R * R) qc zs xs _ ZI.out (by have h := (O2.out.own (by rw [HN.out]; omega)).form; obtain ⟨a', c', e', r', -⟩ := h; injection e' with e1 e2 e3; rw [e1]; exact r') hR (by omega) hC HZ.out HX.out HZ.out HN.out).mono ?_
      rintro e w6 ⟨ys, hy, g2, rfl, hg2, hi2, hb2⟩
      have FX := Lib.hid (FX.out.trans (FrS.of_below hb2))
      have K2 := Lib.hid (K2.out.step hb2)
      have K3 := Lib.hid (K3.out.step hb2)
      have O2 := Lib.hid (O2.out.frs2 (FrS.of_below (p := fun _ => False) hb2) (fun _ _ _ h => h))
      have O9 := Lib.hid hi2
      have HL9 : Hid (ys.length ≤ 576) := by show ys.length ≤ 576; rw [hy]; have : R * C ≤ 24 * 24 := Nat.mul_le_mul hR hC; omega
      have lg2 : w.heap.size + 1 < g2 := by omega
      clear hi2 hy hb2
      try dsimp only
      refine hKK.out _ _ ?_ (fun hH2 => ?_)
      · exact FX.out
      clear hKK KK
      have hO := hH
      clear hH
      have hH := hH2
      clear hH2
      try simp only [Act.put, List.setIfInBounds_toArray, List.set_cons_zero, List.set_cons_succ]
      obtain ⟨y0, y1, y2, y3, y4, y5⟩ := K2.out.all
      refine wpAnyH_ready (rs := [7]) (by kernel_rfl) (by simp) ?_
      refine AllReadyH.cons (by simp only [List.getElem?_toArray, List.getElem?_cons_succ, List.getElem?_cons_zero]; rfl) (fun KK hKK => ?_) AllReadyH.nil
      go_simp
      have FX := Lib.hid (FX.out.set3 (b := w.heap.size) (.inl (.inr (.inl rfl))) (.int .i64 r) (.int .i64 c) (.slice q n qc))
      have O9 := Lib.hid (((O9.out.far (a := ⟨w.heap.size, 0, none⟩) (by show g2 ≠ w.heap.size; omega) (.int .i64 r)).far (a := ⟨w.heap.size, 1, none⟩) (by show g2 ≠ w.heap.size; omega) (.int .i64 c)).far (a := ⟨w.heap.size, 2, none⟩) (by show g2 ≠ w.heap.size; omega) (.slice q n qc))
      have O2 := Lib.hid (O2.out.out3 K2.out (.int .i64 r) (.int .i64 c) (.slice q n qc))
      have K3 := Lib.hid (K3.out.far3 (c := w.heap.size) (by omega) (.int .i64 r) (.int .i64 c) (.slice q n qc))
      have K2 := Lib.hid (K2.out.set3 (.int .i64 r) (.int .i64 c) (.slice q n qc))
      try dsimp only
      refine hKK.out _ _ ?_ (fun hH2 => ?_)
      · exact FX.out
      clear hKK KK
      have hO := hH
      clear hH
      have hH := hH2
      clear hH2
      try simp only [Act.put, List.setIfInBounds_toArray, List.set_cons_zero, List.set_cons_succ]
      obtain ⟨z0, z1, z2, z3, z4, z5⟩ := K3.out.all
      refine wpAnyH_ready (rs := [8]) (by kernel_rfl) (by simp) ?_
      refine AllReadyH.cons (by simp only [List.getElem?_toArray, List.getElem?_cons_succ, List.getElem?_cons_zero]; rfl) (fun KK hKK => ?_) AllReadyH.nil
      go_simp
      have FX := Lib.hid (FX.out.set3 (b := w.heap.size + 1) (.inl (.inr (.inr rfl))) (.int .i64 (R : Int)) (.int .i64 (C : Int)) (.slice (some ⟨g2, 0, none⟩) ys.length ys.length))
      have O9 := Lib.hid (((O9.out.far (a := ⟨w.heap.size + 1, 0, none⟩) (by show g2 ≠ w.heap.size + 1; omega) (.int .i64 (R : Int))).far (a := ⟨w.heap.size + 1, 1, none⟩) (by show g2 ≠ w.heap.size + 1; omega) (.int .i64 (C : Int))).far (a := ⟨w.heap.size + 1, 2, none⟩) (by show g2 ≠ w.heap.size + 1; omega) (.slice (some ⟨g2, 0, none⟩) ys.length ys.length))
      have O2 := Lib.hid (O2.out.out3 K3.out (.int .i64 (R : Int)) (.int .i64 (C : Int)) (.slice (some ⟨g2, 0, none⟩) ys.length ys.length))
      have K2 := Lib.hid (K2.out.far3 (c := w.heap.size + 1) (by omega) (.int .i64 (R : Int)) (.int .i64 (C : Int)) (.slice (some ⟨g2, 0, none⟩) ys.length ys.length))
      have K3 := Lib.hid (K3.out.set3 (.int .i64 (R : Int)) (.int .i64 (C : Int)) (.slice (some ⟨g2, 0, none⟩) ys.length ys.length))
      try dsimp only
      refine hKK.out _ _ ?_ (fun hH2 => ?_)
      · exact FX.out
      clear hKK KK
      have hO := hH
      clear hH
      have hH := hH2
      clear hH2
      try simp only [Act.put, List.setIfInBounds_toArray, List.set_cons_zero, List.set_cons_succ]
      refine wpAnyH_done (by kernel_rfl) ?_ _
      go_wp2_with fail
      obtain ⟨E0, E1, E2, -, -, -⟩ := K2.out.all
      obtain ⟨G0, G1, G2, -, -, -⟩ := K3.out.all
      have FZ := F2.out.trans (FX.out.mono2 (q := fun k => w.heap.size ≤ k) (fun k _ hk => by omega))
      refine bodyPost_ret (v := .tuple #[.agg #[.int .i64 r, .int .i64 c, .slice q n qc], .agg #[.int .i64 (R : Int), .int .i64 (C : Int), .slice (some ⟨g2, 0, none⟩) ys.length ys.length]]) (by simp [results, Try.results35, go_sem, E0, E1, E2, G0, G1, G2]) rfl ⟨_, _, _, xs, _, _, _, ys, rfl, (O2.out.own (by rw [HN.out]; omega)).le (by omega), .inr ⟨g2, ys.length, rfl, by omega, O9.out, Nat.le_refl _, by have := HL9.out; omega⟩, by rw [HN.out]; omega, by have := HL9.out; omega, FZ.below (fun k hk => hk) (Nat.le_refl _)⟩
    | false =>
      go_upto_region 5 with fail
      refine wp_region_held_drew (S := fun w' => FrS (fun k => k = cb ∨ k = w.heap.size ∨ k = w.heap.size + 1) w5' w') (by kernel_rfl) (FrS.refl _ _).drew (fun hH => ?_)
      refine wpAnyH_take (i := 0) (v := ?_) (by simp only [List.getElem?_toArray, List.getElem?_cons_zero]; rfl) (by kernel_rfl) (by kernel_rfl) (by kernel_rfl) (by exact fun _ _ _ h => h) (Or.inl ⟨by rfl, ?_⟩) hH ?_
      rotate_left
      · (intro wS hS; (try dsimp only at hS); obtain ⟨k1, k2, k3⟩ := sevenF K5.out hS (by omega); go_simp; try rfl)
      try simp only [Act.put, List.setIfInBounds_toArray, List.set_cons_zero, List.set_cons_succ]
      refine wpAnyH_take (i := 1) (v := ?_) (by simp only [List.getElem?_toArray, List.getElem?_cons_succ, List.getElem?_cons_zero]; rfl) (by kernel_rfl) (by kernel_rfl) (by kernel_rfl) (by exact fun _ _ _ h => h) (Or.inl ⟨by rfl, ?_⟩) hH ?_
      rotate_left
      · (intro wS hS; clear hS; go_simp; try rfl)
      try simp only [Act.put, List.setIfInBounds_toArray, List.set_cons_zero, List.set_cons_succ]
      refine wpAnyH_ready (rs := [2]) (by kernel_rfl) (by simp) ?_
      refine AllReadyH.cons (by simp only [List.getElem?_toArray, List.getElem?_cons_succ, List.getElem?_cons_zero]; rfl) (fun KK hKK => ?_) AllReadyH.nil
      go_simp
      refine (l3Any _ cb (by exact C2.out)).mono ?_
      rintro e w5 ⟨r9, c9, v9, ys, rfl, own, hl9, hc9, hf⟩
      obtain ⟨q9, qc9, rfl, -, -⟩ := (own.own (by omega)).form
      have hf : FrS (fun k => k = cb ∨ w5'.heap.size ≤ k) w5' w5 := ((FrS.refl _ w5').drew).trans hf
      have FX : Hid (FrS (fun k => k = cb ∨ k = w.heap.size ∨ k = w.heap.size + 1) w5' w5) := (hf.mono2 (fun k hk h => by omega))
      have lw := F2.out.size
      have s2 := K3.out.lt
      have s5 := K5.out.lt
      have K2 := Lib.hid (K2.out.frs hf (by omega))
      have K3 := Lib.hid (K3.out.frs hf (by omega))
      have O2 := Lib.hid (O2.out.frs2 hf (fun k hk hk2 => by omega))
      have own : OwnC w5'.heap.size w5 (.slice q9 ys.length qc9) ys := own
      have O9 := Lib.hid own
      have HL9 := Lib.hid hl9
      clear own hl9 hc9 hf
      try dsimp only
      refine hKK.out _ _ ?_ (fun hH2 => ?_)
      · exact FX.out
      clear hKK KK
      have hO := hH
      clear hH
      have hH := hH2
      clear hH2
      try simp only [Act.put, List.setIfInBounds_toArray, List.set_cons_zero, List.set_cons_succ]
      obtain ⟨y0, y1, y2, y3, y4, y5⟩ := K2.out.all
      refine wpAnyH_ready (rs := [3]) (by kernel_rfl) (by simp) ?_
      refine AllReadyH.cons (by simp only [List.getElem?_toArray, List.getElem?_cons_succ, List.getElem?_cons_zero]; rfl) (fun KK hKK => ?_) AllReadyH.nil
      go_simp
      have FX := Lib.hid (FX.out.set3 (b := w.heap.size) (.inl (.inr (.inl rfl))) (.int .i64 r) (.int .i64 c) (.slice q n qc))
      have O9 := Lib.hid (O9.out.out3 K2.out (.int .i64 r) (.int .i64 c) (.slice q n qc))
      have O2 := Lib.hid (O2.out.out3 K2.out (.int .i64 r) (.int .i64 c) (.slice q n qc))
      have K3 := Lib.hid (K3.out.far3 (c := w.heap.size) (by omega) (.int .i64 r) (.int .i64 c) (.slice q n qc))
      have K2 := Lib.hid (K2.out.set3 (.int .i64 r) (.int .i64 c) (.slice q n qc))
      try dsimp only
      refine hKK.out _ _ ?_ (fun hH2 => ?_)
      · exact FX.out
      clear hKK KK
      have hO := hH
      clear hH
      have hH := hH2
      clear hH2
      try simp only [Act.put, List.setIfInBounds_toArray, List.set_cons_zero, List.set_cons_succ]
      obtain ⟨z0, z1, z2, z3, z4, z5⟩ := K3.out.all
      refine wpAnyH_ready (rs := [4]) (by kernel_rfl) (by simp) ?_
      refine AllReadyH.cons (by simp only [List.getElem?_toArray, List.getElem?_cons_succ, List.getElem?_cons_zero]; rfl) (fun KK hKK => ?_) AllReadyH.nil
      go_simp
      have FX := Lib.hid (FX.out.set3 (b := w.heap.size + 1) (.inl (.inr (.inr rfl))) (.int .i64 r9) (.int .i64 c9) (.slice q9 ys.length qc9))
      have O9 := Lib.hid (O9.out.out3 K3.out (.int .i64 r9) (.int .i64 c9) (.slice q9 ys.length qc9))
      have O2 := Lib.hid (O2.out.out3 K3.out (.int .i64 r9) (.int .i64 c9) (.slice q9 ys.length qc9))
      have K2 := Lib.hid (K2.out.far3 (c := w.heap.size + 1) (by omega) (.int .i64 r9) (.int .i64 c9) (.slice q9 ys.length qc9))
      have K3 := Lib.hid (K3.out.set3 (.int .i64 r9) (.int .i64 c9) (.slice q9 ys.length qc9))
      try dsimp only
      refine hKK.out _ _ ?_ (fun hH2 => ?_)
      · exact FX.out
      clear hKK KK
      have hO := hH
      clear hH
      have hH := hH2
      clear hH2
      try simp only [Act.put, List.setIfInBounds_toArray, List.set_cons_zero, List.set_cons_succ]
      refine wpAnyH_done (by kernel_rfl) ?_ _
      go_wp2_with fail
      obtain ⟨E0, E1, E2, -, -, -⟩ := K2.out.all
      obtain ⟨G0, G1, G2, -, -, -⟩ := K3.out.all
      have FZ := F2.out.trans (FX.out.mono2 (q := fun k => w.heap.size ≤ k) (fun k _ hk => by omega))
      refine bodyPost_ret (v := .tuple #[.agg #[.int .i64 r, .int .i64 c, .slice q n qc], .agg #[.int .i64 r9, .int .i64 c9, .slice q9 ys.length qc9]]) (by simp [results, Try.results35, go_sem, E0, E1, E2, G0, G1, G2]) rfl ⟨_, _, _, xs, _, _, _, ys, rfl, (O2.out.own (by rw [HN.out]; omega)).le (by omega), (O9.out.own (by have := HL9.out; omega)).le (by omega), by rw [HN.out]; omega, by have := HL9.out; omega, FZ.below (fun k hk => hk) (Nat.le_refl _)⟩
  · rw [hm]
    clear hm
    go_upto_region 5 with fail
    refine wp_region_held_drew (S := fun w' => FrS (fun k => k = cb ∨ k = w.heap.size ∨ k = w.heap.size + 1) w4 w') (by kernel_rfl) (FrS.refl _ _).drew (fun hH => ?_)
    refine wpAnyH_take (i := 0) (v := ?_) (by simp only [List.getElem?_toArray, List.getElem?_cons_zero]; rfl) (by kernel_rfl) (by kernel_rfl) (by kernel_rfl) (by exact fun _ _ _ h => h) (Or.inl ⟨by rfl, ?_⟩) hH ?_
    rotate_left
    · (intro wS hS; (try dsimp only at hS); obtain ⟨k1, k2, k3⟩ := sevenF K5.out hS (by omega); go_simp; try rfl)
    try simp only [Act.put, List.setIfInBounds_toArray, List.set_cons_zero, List.set_cons_succ]
    refine wpAnyH_take (i := 1) (v := ?_) (by simp only [List.getElem?_toArray, List.getElem?_cons_succ, List.getElem?_cons_zero]; rfl) (by kernel_rfl) (by kernel_rfl) (by kernel_rfl) (by exact fun _ _ _ h => h) (Or.inl ⟨by rfl, ?_⟩) hH ?_
    rotate_left
    · (intro wS hS; clear hS; go_simp; try rfl)
    try simp only [Act.put, List.setIfInBounds_toArray, List.set_cons_zero, List.set_cons_succ]
    refine wpAnyH_ready (rs := [2]) (by kernel_rfl) (by simp) ?_
    refine AllReadyH.cons (by simp only [List.getElem?_toArray, List.getElem?_cons_succ, List.getElem?_cons_zero]; rfl) (fun KK hKK => ?_) AllReadyH.nil
    go_simp
    refine (l3Any _ cb (by exact C2.out)).mono ?_
    rintro e w5 ⟨r9, c9, v9, ys, rfl, own, hl9, hc9, hf⟩
    obtain ⟨q9, qc9, rfl, -, -⟩ := (own.own (by omega)).form
    have hf : FrS (fun k => k = cb ∨ w4.heap.size ≤ k) w4 w5 := ((FrS.refl _ w4).drew).trans hf
    have FX : Hid (FrS (fun k => k = cb ∨ k = w.heap.size ∨ k = w.heap.size + 1) w4 w5) := (hf.mono2 (fun k hk h => by omega))
    have lw := F2.out.size
    have s2 := K3.out.lt
    have s5 := K5.out.lt
    have K2 := Lib.hid (K2.out.frs hf (by omega))
    have K3 := Lib.hid (K3.out.frs hf (by omega))
    have O2 := Lib.hid (O2.out.frs2 hf (fun k hk hk2 => by omega))
    have own : OwnC w4.heap.size w5 (.slice q9 ys.length qc9) ys := own
    have O9 := Lib.hid own
    have HL9 := Lib.hid hl9
    clear own hl9 hc9 hf
    try dsimp only
    refine hKK.out _ _ ?_ (fun hH2 => ?_)
    · exact FX.out
    clear hKK KK
    have hO := hH
    clear hH
    have hH := hH2
    clear hH2
    try simp only [Act.put, List.setIfInBounds_toArray, List.set_cons_zero, List.set_cons_succ]
    obtain ⟨y0, y1, y2, y3, y4, y5⟩ := K2.out.all
    refine wpAnyH_ready (rs := [3]) (by kernel_rfl) (by simp) ?_
    refine AllReadyH.cons (by simp only [List.getElem?_toArray, List.getElem?_cons_succ, List.getElem?_cons_zero]; rfl) (fun KK hKK => ?_) AllReadyH.nil
    go_simp
    have FX := Lib.hid (FX.out.set3 (b := w.heap.size) (.inl (.inr (.inl rfl))) (.int .i64 r) (.int .i64 c) (.slice q n qc))
    have O9 := Lib.hid (O9.out.out3 K2.out (.int .i64 r) (.int .i64 c) (.slice q n qc))
    have O2 := Lib.hid (O2.out.out3 K2.out (.int .i64 r) (.int .i64 c) (.slice q n qc))
    have K3 := Lib.hid (K3.out.far3 (c := w.heap.size) (by omega) (.int .i64 r) (.int .i64 c) (.slice q n qc))
    have K2 := Lib.hid (K2.out.set3 (.int .i64 r) (.int .i64 c) (.slice q n qc))
    try dsimp only
    refine hKK.out _ _ ?_ (fun hH2 => ?_)
    · exact FX.out
    clear hKK KK
    have hO := hH
    clear hH
    have hH := hH2
    clear hH2
    try simp only [Act.put, List.setIfInBounds_toArray, List.set_cons_zero, List.set_cons_succ]
    obtain ⟨z0, z1, z2, z3, z4, z5⟩ := K3.out.all
    refine wpAnyH_ready (rs := [4]) (by kernel_rfl) (by simp) ?_
    refine AllReadyH.cons (by simp only [List.getElem?_toArray, List.getElem?_cons_succ, List.getElem?_cons_zero]; rfl) (fun KK hKK => ?_) AllReadyH.nil
    go_simp
    have FX := Lib.hid (FX.out.set3 (b := w.heap.size + 1) (.inl (.inr (.inr rfl))) (.int .i64 r9) (.int .i64 c9) (.slice q9 ys.length qc9))
    have O9 := Lib.hid (O9.out.out3 K3.out (.int .i64 r9) (.int .i64 c9) (.slice q9 ys.length qc9))
    have O2 := Lib.hid (O2.out.out3 K3.out (.int .i64 r9) (.int .i64 c9) (.slice q9 ys.length qc9))
    have K2 := Lib.hid (K2.out.far3 (c := w.heap.size + 1) (by omega) (.int .i64 r9) (.int .i64 c9) (.slice q9 ys.length qc9))
    have K3 := Lib.hid (K3.out.set3 (.int .i64 r9) (.int .i64 c9) (.slice q9 ys.length qc9))
    try dsimp only
    refine hKK.out _ _ ?_ (fun hH2 => ?_)
    · exact FX.out
    clear hKK KK
    have hO := hH
    clear hH
    have hH := hH2
    clear hH2
    try simp only [Act.put, List.setIfInBounds_toArray, List.set_cons_zero, List.set_cons_succ]
    refine wpAnyH_done (by kernel_rfl) ?_ _
    go_wp2_with fail
    obtain ⟨E0, E1, E2, -, -, -⟩ := K2.out.all
    obtain ⟨G0, G1, G2, -, -, -⟩ := K3.out.all
    have FZ := F2.out.trans (FX.out.mono2 (q := fun k => w.heap.size ≤ k) (fun k _ hk => by omega))
    refine bodyPost_ret (v := .tuple #[.agg #[.int .i64 r, .int .i64 c, .slice q n qc], .agg #[.int .i64 r9, .int .i64 c9, .slice q9 ys.length qc9]]) (by simp [results, Try.results35, go_sem, E0, E1, E2, G0, G1, G2]) rfl ⟨_, _, _, xs, _, _, _, ys, rfl, (O2.out.own (by rw [HN.out]; omega)).le (by omega), (O9.out.own (by have := HL9.out; omega)).le (by omega), by rw [HN.out]; omega, by have := HL9.out; omega, FZ.below (fun k hk => hk) (Nat.le_refl _)⟩
end Go.Proofs.Ytbdofgkcedpamaa
end

section
/-
  Chapter 3: what StackRows gives.
-/
namespace Go.Proofs.Ytbdofgkcedpamaa
open Go.RowKit

def stackM (r c : Int) (xs : List Int) (r' c' : Int) (ys : List Int) : MR := if (isMat r c xs && isMat r' c' ys && decide (c = c') && decide (r + r' ≤ 24)) = true then ⟨true, r + r', c, xs ++ ys⟩ else MR.no
theorem sixG {W w' : World} {b c g : Nat} {t t' : TypeId} {p q r x y z : Value} (h0 : Blk3 W b t p q r) (h1 : Blk3 W c t' x y z) (hg : W.grownBy w' (some g)) (n0 : b ≠ g) (n1 : c ≠ g) :
    w'.cell? ⟨b, 0, none⟩ = some p ∧ w'.cell? ⟨b, 1, none⟩ = some q ∧ w'.cell? ⟨b, 2, none⟩ = some r ∧ w'.cell? ⟨c, 0, none⟩ = some x ∧ w'.cell? ⟨c, 1, none⟩ = some y ∧ w'.cell? ⟨c, 2, none⟩ = some z :=
  ⟨(h0.keepOne hg n0).cell0, (h0.keepOne hg n0).cell1, (h0.keepOne hg n0).cell2, (h1.keepOne hg n1).cell0, (h1.keepOne hg n1).cell1, (h1.keepOne hg n1).cell2⟩
end Go.Proofs.Ytbdofgkcedpamaa
end

section
/-
  Plain mathematics of chapter 7: what FnSpaces asks. Nothing of a program is used.
-/
namespace Go.Proofs.Ytbdofgkcedpamaa
open Go.RowKit

theorem sp_no {r c r2 c2 : Int} {xs ys : List Int} (h : (spOf r c xs r2 c2 ys).2 = false) : (spOf r c xs r2 c2 ys).1 = false := by
  unfold spOf at h ⊢
  split
  · rename_i h1
    rw [if_pos h1] at h
    cases h
  · rfl
theorem stk_at {r c : Nat} {xs ys : List Int} (hx : xs.length = r * c) (i j : Nat) (hj : j < c) : mxC c (xs ++ ys) i j = stkX r (mxC c xs) (mxC c ys) i j := by
  show (xs ++ ys).getD (i * c + j) 0 = if i < r then xs.getD (i * c + j) 0 else ys.getD ((i - r) * c + j) 0
  by_cases h : i < r
  · have h1 : i * c + j < xs.length := by rw [hx]; exact idx_lt h hj
    rw [if_pos h, List.getD, List.getD, List.getElem?_append_left h1]
  · have h1 : xs.length ≤ i * c + j := by
      rw [hx]
      exact Nat.le_trans (Nat.mul_le_mul_right c (show r ≤ i by omega)) (Nat.le_add_right _ _)
    rw [if_neg h, List.getD, List.getD, List.getElem?_append_right h1, hx, Nat.sub_mul]
    congr 2
    have : r * c ≤ i * c := Nat.mul_le_mul_right c (show r ≤ i by omega)
    omega
/-- Two matrices span one space just if the rank does not grow where one is laid under the other. -/
theorem sp_law {r c r2 c2 : Int} {xs ys : List Int} {P : Bool × Bool} {m : MR} (h : spOf r c xs r2 c2 ys = P) (ho : P.2 = true) (hm : stackM r c xs r2 c2 ys = m) (hk : m.ok = true) (h3 : (echR m.r m.c m.zs).ok = true) :
    P.1 = (decide ((echR r c xs).pv.length = (echR m.r m.c m.zs).pv.length) && decide ((echR r2 c2 ys).pv.length = (echR m.r m.c m.zs).pv.length)) := by
  subst h
  by_cases hc : (echR r c xs).ok = true ∧ (echR r2 c2 ys).ok = true ∧ c = c2
  · have e0 : spOf r c xs r2 c2 ys = (decide ((echR r c xs).pv.length = (echR r2 c2 ys).pv.length) && decide (∀ i, i < (echR r c xs).pv.length * c.toNat → (echR r c xs).zs.getD i 0 = (echR r2 c2 ys).zs.getD i 0), true) := if_pos hc
    rw [e0]
    obtain ⟨h1, h2, rfl⟩ := hc
    obtain ⟨m1, R, C, us, p, rfl, rfl, hR, hC, hx, nx, he, e, -, -⟩ := echR_ok h1
    obtain ⟨m2, R2, C2, vs, q, rfl, e2c, hR2, -, hy, ny, he2, e2, -, -⟩ := echR_ok h2
    obtain rfl : C = C2 := by omega
    unfold stackM at hm
    by_cases hs : (isMat R C xs && isMat R2 C ys && decide ((C : Int) = (C : Int)) && decide ((R : Int) + (R2 : Int) ≤ 24)) = true
    · rw [if_pos hs] at hm
      subst hm
      obtain ⟨-, R3, C3, ws, u, q1, q2, -, -, hz, nz, he3, e3, -, -⟩ := echR_ok h3
      have q1 : (R : Int) + (R2 : Int) = (R3 : Int) := q1
      have q2 : (C : Int) = (C3 : Int) := q2
      obtain rfl : R3 = R + R2 := by omega
      obtain rfl : C = C3 := by omega
      have hz : (xs ++ ys).length = (R + R2) * C := hz
      have nz : nums (xs ++ ys) = true := nz
      have he3 : echM (R + R2) C (xs ++ ys) = some (ws, u) := he3
      have e3 : echR ((R : Int) + (R2 : Int)) C (xs ++ ys) = ⟨((R + R2 : Nat) : Int), C, ws, pvI u, true⟩ := e3
      have L := spaces_law hx nx hy ny hz nz (fun i j _ hj => stk_at hx i j hj) he he2 he3
      show (decide ((echR R C xs).pv.length = (echR R2 C ys).pv.length) && decide (∀ i, i < (echR R C xs).pv.length * (C : Int).toNat → (echR R C xs).zs.getD i 0 = (echR R2 C ys).zs.getD i 0)) = (decide ((echR R C xs).pv.length = (echR ((R : Int) + (R2 : Int)) C (xs ++ ys)).pv.length) && decide ((echR R2 C ys).pv.length = (echR ((R : Int) + (R2 : Int)) C (xs ++ ys)).pv.length))
      rw [e, e2, e3]
      show (decide ((pvI p).length = (pvI q).length) && decide (∀ i, i < (pvI p).length * (C : Int).toNat → us.getD i 0 = vs.getD i 0)) = (decide ((pvI p).length = (pvI u).length) && decide ((pvI q).length = (pvI u).length))
      rw [pvI_length, pvI_length, pvI_length, show (C : Int).toNat = C by omega]
      exact L
    · rw [if_neg hs] at hm
      subst hm
      cases hk
  · have e0 : spOf r c xs r2 c2 ys = (false, false) := if_neg hc
    rw [e0] at ho
    cases ho
end Go.Proofs.Ytbdofgkcedpamaa
end

section
/-
  Chapter 3, in the model: RowOf.
-/
namespace Go.Proofs.Ytbdofgkcedpamaa
set_option maxRecDepth 100000
open Go.RowKit

theorem cut_at (xs : List Int) (d n k : Nat) (hk : k < n) : ((xs.drop d).take n).getD k 0 = xs.getD (d + k) 0 := by
  simp [List.getD, hk]
theorem BH1 (w : World) (o1 : Obj) : Below w.heap.size w (w.alloc o1) := (Below.refl _ _).alloc (Nat.le_refl _) _

set_option maxHeartbeats 1000000 in
theorem sRow_t (R C r : Nat) (g o m : Nat) (xs : List Int) (w : World) (h : Rd w (some ⟨g, o, none⟩) xs) (hn : xs.length ≤ 16777216) (hm : isMat R C xs = true) (hr : r < R) (hcap : xs.length ≤ m) (hc16 : m ≤ 16777216) :
    Calls Try.prog 37 #[.agg #[.int .i64 R, .int .i64 C, .slice (some ⟨g, o, none⟩) xs.length m], .int .i64 r] w (fun e w' => ∃ v, e = .returned (.tuple #[v, .bool true]) ∧ Own w.heap.size w' v ((xs.drop (r * C)).take C) ∧ Below w.heap.size w w') := by
  obtain ⟨⟨r1, r2⟩, ⟨c1, c2⟩, l1, -⟩ := isMat_says hm
  rw [← Int.natCast_mul] at l1
  have hl1 : xs.length = R * C := by omega
  have q1 : r * C + C ≤ R * C := by
    rw [← Nat.succ_mul]; exact Nat.mul_le_mul_right _ hr
  have q2 : R * C ≤ 24 * 24 := Nat.mul_le_mul (by omega) (by omega)
  have hd : ((xs.drop (r * C)).take C).length = C := by simp; omega
  obtain ⟨D, hD⟩ : ∃ D, r * C = D := ⟨_, rfl⟩
  have u1 : (r : Int) * (C : Int) = (D : Int) := by rw [← hD]; exact (Int.natCast_mul _ _).symm
  have u2 : ((r : Int) + 1) * (C : Int) = ((D + C : Nat) : Int) := by rw [Int.add_mul, Int.one_mul, u1]; rfl
  have v1 : IntKind.i64.wrap ((r : Int) * (C : Int)) = (D : Int) := by rw [u1]; exact IntWalk.i64_in _ (by omega)
  have v2 : IntKind.i64.wrap (((r : Int) + 1) * (C : Int)) = ((D + C : Nat) : Int) := by rw [u2]; exact IntWalk.i64_in _ (by omega)
  rw [hD] at hd q1 ⊢
  obtain ⟨ys, hys⟩ : ∃ l, (xs.drop D).take C = l := ⟨_, rfl⟩
  rw [hys] at hd ⊢
  have YS := Lib.hid hys
  have HL1 := Lib.hid hl1
  have M := Lib.hid hm
  have HD := Lib.hid hd
  have Dm : D + C ≤ m := by omega
  have Dx : D + C ≤ xs.length := by omega
  have C24 : C ≤ 24 := by omega
  have D600 : D ≤ 600 := by omega
  clear l1 hl1 hm hd hD hys u1 u2 q1 q2
  have B0 : ∀ o1, Below w.heap.size w (w.alloc o1) := fun o1 => (Below.refl _ _).alloc (Nat.le_refl _) _
  have BH := Lib.hid B0
  have H := Lib.hid h
  clear B0 h
  go_enter Try.func37, Try.ntmps37
  go_wp2_with fail
  refine (sIsMat R C (some ⟨g, o, none⟩) m xs _ (H.out.below (BH.out (.cells #[.int .i64 R, .int .i64 C, .slice (some ⟨g, o, none⟩) xs.length m] 26))) hn).mono ?_
  rintro e w1 ⟨rfl, hb⟩
  have K0 : Hid (Blk3 w1 w.heap.size 26 (.int .i64 R) (.int .i64 C) (.slice (some ⟨g, o, none⟩) xs.length m)) := (Blk3.at_ _ _ _ _ rfl).keep hb (by simp)
  have B : Hid (Below w.heap.size w w1) := (BH.out _).trans (hb.mono (by simp))
  clear hb
  obtain ⟨c0, c1', c2', -, -, -⟩ := K0.out.all
  obtain ⟨d0, d1, d2, -, -, -⟩ := (K0.out.old (.cells #[] 3)).all
  rw [M.out]
  go_wp2_with fail
  refine (sIn_t r 0 ((R : Int) - 1) _ (by omega) (by omega)).mono ?_
  rintro e w2 ⟨rfl, rfl⟩
  obtain ⟨fi, hfi, hz0, hz1, hz2⟩ := facts_int
  have own0 : (w1.alloc (.cells #[] 3)).ownsRow w1.heap.size 3 1 (.slice (some ⟨w1.heap.size, 0, none⟩) 0 0) 0 [] :=
    ⟨rfl, .inr ⟨w1.heap.size, 0, #[], rfl, Nat.le_refl _, heap_alloc_new w1 _, Nat.le_refl _, by decide, rfl, rfl⟩⟩
  have news : ∀ (A : Addr), (D < m → A = ⟨g, o + D, none⟩) → ∀ (j : Nat) u, (ys.map (Value.int .i64))[j]? = some u → (w1.alloc (.cells #[] 3)).cell? (A.add j) = some u := by
    intro A hA j u hu
    obtain ⟨hj, rfl⟩ := news_ints _ j u hu
    rw [HD.out] at hj
    obtain ⟨b1, o1, e1, hc⟩ := H.out (D + j) (by omega)
    injection e1 with e1
    injection e1 with e1 e2
    subst e1 e2
    rw [← YS.out, cut_at xs D C j hj, hA (by omega)]
    have hw1 := (B.out.cell (World.block_lt_of_cell? w _ hc)).trans hc
    have := ((BH1 w1 (.cells #[] 3)).cell (World.block_lt_of_cell? w1 _ hw1)).trans hw1
    rw [← Nat.add_assoc] at this
    rw [show (⟨g, o + D, none⟩ : Addr).add j = ⟨g, o + D + j, none⟩ by simp only [Addr.add]; split <;> simp_all]
    exact this
  have n1 : ∀ u ∈ ys.map (Value.int .i64), u.oneCell' = true := by
    intro u hu
    obtain ⟨z, -, rfl⟩ := List.mem_map.mp hu
    rfl
  have ln : (ys.map (Value.int .i64)).length = C := by rw [List.length_map, HD.out]
  obtain ⟨NW, hNW⟩ : ∃ l, ys.map (Value.int .i64) = l := ⟨_, rfl⟩
  rw [hNW] at news n1 ln
  have EN := Lib.hid hNW
  have N1 := Lib.hid n1
  have LN := Lib.hid ln
  clear hNW n1 ln
  rcases Nat.lt_or_ge D m with hlt | hge
  · have NN := news ⟨g, o + D, none⟩ (fun _ => rfl)
    clear news
    go_wp2_with (at_builtin; refine wpList_append_own_at _ rfl _ _ 22 rfl w1.heap.size 3 fi (.int .i64 0) 1 8 underlying_ints hfi hz0 hz1 hz2 rfl (by decide) _ _ _ rfl own0 ⟨g, o + D, none⟩ C (m - D) NW ?hx ?hl ?hnews ?h1 ?h63 ?hbytes ?hbase ?hnext)
    case hx => show Value.slice _ (D + C - D) _ = _; rw [Nat.add_sub_cancel_left]
    case hl => rw [LN.out, Nat.mul_one]
    case hnews => exact NN
    case h1 => exact N1.out
    case h63 => simp [maxLen]; omega
    case hbytes => omega
    case hbase => simp
    case hnext =>
      rintro v' w4 ho hg - hb
      have B4 : Hid (Below w.heap.size w w4) := by
        have z := B.out.size
        exact Lib.hid ((B.out.alloc z _).trans (below_of_one hg z (by simp; omega)))
      have O4 : Hid (Own w.heap.size w4 v' ys) := by
        have z := B.out.size
        have e : ys.length = C := HD.out
        refine Lib.hid ((Own.of_row ?_ (by omega)).le z)
        rw [e, EN.out]
        simpa using ho
      clear ho hg hb
      go_wp2_with fail
      exact bodyPost_ret (v := .tuple #[v', .bool true]) (by simp [results, Try.results37, go_sem]) rfl ⟨_, rfl, O4.out, B4.out⟩
  · have NN := news ⟨g, o, none⟩ (fun h => absurd h (by omega))
    clear news
    obtain rfl : C = 0 := by omega
    obtain rfl : D = m := by omega
    go_wp2_with (at_builtin; refine wpList_append_own_at _ rfl _ _ 22 rfl w1.heap.size 3 fi (.int .i64 0) 1 8 underlying_ints hfi hz0 hz1 hz2 rfl (by decide) _ _ _ rfl own0 ⟨g, o, none⟩ 0 D NW ?hx ?hl ?hnews ?h1 ?h63 ?hbytes ?hbase ?hnext)
    case hx => rfl
    case hl => rw [LN.out, Nat.mul_one]
    case hnews => exact NN
    case h1 => exact N1.out
    case h63 => simp [maxLen]
    case hbytes => omega
    case hbase => simp
    case hnext =>
      rintro v' w4 ho hg - hb
      have B4 : Hid (Below w.heap.size w w4) := by
        have z := B.out.size
        exact Lib.hid ((B.out.alloc z _).trans (below_of_one hg z (by simp; omega)))
      have O4 : Hid (Own w.heap.size w4 v' ys) := by
        have z := B.out.size
        have e : ys.length = 0 := HD.out
        refine Lib.hid ((Own.of_row ?_ (by omega)).le z)
        rw [e, EN.out]
        simpa using ho
      clear ho hg hb
      go_wp2_with fail
      exact bodyPost_ret (v := .tuple #[v', .bool true]) (by simp [results, Try.results37, go_sem]) rfl ⟨_, rfl, O4.out, B4.out⟩

/-- A row of a matrix, and whether it is there. -/
def rowOf (r c : Int) (xs : List Int) (k : Int) : List Int := if (isMat r c xs && decide (0 ≤ k ∧ k ≤ r - 1)) = true then (xs.drop (k.toNat * c.toNat)).take c.toNat else []
def rowOk (r c : Int) (xs : List Int) (k : Int) : Bool := isMat r c xs && decide (0 ≤ k ∧ k ≤ r - 1)
def RowRes (r c : Int) (xs : List Int) (k : Int) (w : World) (e : Ending) (w' : World) : Prop :=
  ∃ v, e = .returned (.tuple #[v, .bool (rowOk r c xs k)]) ∧ Own w.heap.size w' v (rowOf r c xs k) ∧ Below w.heap.size w w'

set_option maxHeartbeats 400000 in
theorem sRow (r c : Int) (g o m : Nat) (xs : List Int) (k : Int) (w : World) (h : Rd w (some ⟨g, o, none⟩) xs) (hn : xs.length ≤ 16777216) (hcap : xs.length ≤ m) (hc16 : m ≤ 16777216) :
    Calls Try.prog 37 #[.agg #[.int .i64 r, .int .i64 c, .slice (some ⟨g, o, none⟩) xs.length m], .int .i64 k] w (RowRes r c xs k w) := by
  by_cases hall : isMat r c xs = true ∧ 0 ≤ k ∧ k ≤ r - 1
  · obtain ⟨hm, hk1, hk2⟩ := hall
    obtain ⟨⟨r1, r2⟩, ⟨c1, c2⟩, -, -⟩ := isMat_says hm
    obtain ⟨R, rfl⟩ := Int.eq_ofNat_of_zero_le r1
    obtain ⟨C, rfl⟩ := Int.eq_ofNat_of_zero_le c1
    obtain ⟨K, rfl⟩ := Int.eq_ofNat_of_zero_le hk1
    have E1 : rowOk R C xs K = true := by unfold rowOk; rw [hm, decide_eq_true ⟨hk1, hk2⟩]; rfl
    have E2 : rowOf R C xs K = (xs.drop (K * C)).take C := by unfold rowOf; rw [hm, decide_eq_true ⟨hk1, hk2⟩]; rfl
    unfold RowRes
    rw [E1, E2]
    exact sRow_t R C K g o m xs w h hn hm (by omega) hcap hc16
  · have E1 : Hid (rowOk r c xs k = false) := by
      show rowOk r c xs k = false
      unfold rowOk
      rcases Bool.eq_false_or_eq_true (isMat r c xs) with hm | hm
      · rw [hm, decide_eq_false (fun h => hall ⟨hm, h⟩)]; rfl
      · rw [hm]; rfl
    have E2 : Hid (rowOf r c xs k = []) := by
      show rowOf r c xs k = []
      have := E1.out
      unfold rowOk at this
      unfold rowOf
      rw [this]; rfl
    have HALL := Lib.hid hall
    clear hall
    have B0 : ∀ o1, Below w.heap.size w (w.alloc o1) := fun o1 => (Below.refl _ _).alloc (Nat.le_refl _) _
    have BH := Lib.hid B0
    have H := Lib.hid h
    clear B0 h
    have F : ∀ w1 : World, Below w.heap.size w w1 → RowRes r c xs k w (.returned (.tuple #[.slice (some ⟨w1.heap.size, 0, none⟩) 0 0, .bool false])) (w1.alloc (.cells #[] 3)) := fun w1 hb =>
      ⟨_, by rw [E1.out], by rw [E2.out]; exact .inr ⟨w1.heap.size, 0, rfl, hb.size, ⟨[], heap_alloc_new w1 _⟩, Nat.le_refl _, by simp⟩, hb.alloc hb.size _⟩
    have FH := Lib.hid F
    clear F
    go_enter Try.func37, Try.ntmps37
    go_wp2_with fail
    refine (sIsMat r c (some ⟨g, o, none⟩) m xs _ (H.out.below (BH.out (.cells #[.int .i64 r, .int .i64 c, .slice (some ⟨g, o, none⟩) xs.length m] 26))) hn).mono ?_
    rintro e w1 ⟨rfl, hb⟩
    have K0 : Hid (Blk3 w1 w.heap.size 26 (.int .i64 r) (.int .i64 c) (.slice (some ⟨g, o, none⟩) xs.length m)) := (Blk3.at_ _ _ _ _ rfl).keep hb (by simp)
    have B : Hid (Below w.heap.size w w1) := (BH.out _).trans (hb.mono (by simp))
    clear hb
    obtain ⟨c0, c1', c2', -, -, -⟩ := K0.out.all
    rcases Bool.eq_false_or_eq_true (isMat r c xs) with hm | hm
    · have hk : k < 0 ∨ r - 1 < k := by
        have := HALL.out
        by_cases h1 : 0 ≤ k
        · by_cases h2 : k ≤ r - 1
          · exact absurd ⟨hm, h1, h2⟩ this
          · omega
        · omega
      have s1 := (isMat_says hm).1
      obtain ⟨s11, s12⟩ := s1
      rw [hm]
      clear hm
      go_wp2_with fail
      refine (sIn_f k 0 (r - 1) _ hk).mono ?_
      rintro e w2 ⟨rfl, rfl⟩
      go_wp2_with fail
      exact bodyPost_ret (v := .tuple #[.slice (some ⟨w1.heap.size, 0, none⟩) 0 0, .bool false]) (by simp [results, Try.results37, go_sem]) rfl (FH.out w1 B.out)
    · rw [hm]
      clear hm
      go_wp2_with fail
      exact bodyPost_ret (v := .tuple #[.slice (some ⟨w1.heap.size, 0, none⟩) 0 0, .bool false]) (by simp [results, Try.results37, go_sem]) rfl (FH.out w1 B.out)
end Go.Proofs.Ytbdofgkcedpamaa
end

section
/-
  Generic functions of Go's library at this translation: the tables of numbers.
-/
namespace Go.Proofs
open Go.Shelf
def Try.growI_ren : Go.Shelf.Ren := ⟨fun | 4 => 102 | n => n, fun | 22 => 22 | 25 => 3 | 3 => 3 | 4 => 4 | 9 => 9 | 20 => 20 | 0 => 0 | n => n, fun | n => n⟩
theorem Try.growI : Go.Proofs.Lays8.n4 Try.prog Try.growI_ren := {
  mixed := by kernel_rfl
  f4 := ⟨Try.f102.name, by decide, Try.func102.trans (congrArg some (by kernel_rfl))⟩
  t0 := Try.underlying0
  a0 := Try.isAgg0
  z0 := Try.sizeOf0
  v0 := Try.zeroValue0
  t3 := Try.underlying3
  a3 := Try.isAgg3
  z3 := Try.sizeOf3
  v3 := Try.zeroValue3
  t4 := Try.underlying4
  a4 := Try.isAgg4
  z4 := Try.sizeOf4
  v4 := Try.zeroValue4
  t9 := Try.underlying9
  a9 := Try.isAgg9
  z9 := Try.sizeOf9
  v9 := Try.zeroValue9
  t20 := Try.underlying20
  a20 := Try.isAgg20
  z20 := Try.sizeOf20
  v20 := Try.zeroValue20
  t22 := Try.underlying22
  a22 := Try.isAgg22
  z22 := Try.sizeOf22
  v22 := Try.zeroValue22 }
end Go.Proofs
end

section
/-
  slices.Grow of nothing and slices.Concat of two slices of ints.
-/
namespace Go.Proofs.Ytbdofgkcedpamaa
set_option maxRecDepth 100000
open Go.RowKit

/-- Room for n ints in memory of the call's own. -/
def Room (w : World) (e : Ending) (w' : World) : Prop := ∃ v, e = .returned v ∧ w'.ownsRow w.heap.size 3 1 v 0 [] ∧ Below w.heap.size w w'
theorem iGrow (n : Nat) (w : World) (hn : n ≤ 16777216) :
    Calls Try.prog 102 #[.slice none 0 0, .int .i64 n] w (Room w) := by
  rcases Nat.eq_zero_or_pos n with rfl | hp
  · exact (Any8.slices_Grow_room Try.growI none 0 0 0 w (by omega) (by omega) (by omega) (by omega)).mono fun e w' ⟨h1, h2⟩ => ⟨_, h1, ⟨rfl, .inl ⟨rfl, rfl⟩⟩, by rw [h2]; exact Below.refl _ _⟩
  · obtain ⟨fi, hfi, hz0, hz1, hz2⟩ := facts_int
    refine (Any8.slices_Grow_grow Try.growI fi (.int .i64 0) hfi hz0 (by omega) none 0 0 n [] w (by omega) (by omega) (by rw [hz2]; omega) (by omega) (by simp) (fun _ => rfl) (fun a h => by cases h)).mono ?_
    rintro e w' ⟨rfl, rfl⟩
    have hge := grownCap_ge w (0 + n) 0 3
    have hle := grownCap_le_maxLen w (0 + n) 0 3 (by unfold maxLen; omega)
    refine ⟨_, rfl, ⟨rfl, .inr ⟨w.heap.size, _, _, rfl, Nat.le_refl _, heap_alloc_new w.drew _, Nat.zero_le _, hle, ?_, rfl⟩⟩, ((Below.refl _ w).drew).alloc (Nat.le_refl _) _⟩
    show Array.size (_ ++ _ ++ _) = grownCap w (0 + n) 0 3 * 1
    rw [Array.size_append, Array.size_append, size_zeroCells, size_zeroCells]
    simp only [Value.cells, Nat.mul_one]
    show 0 + (0 + n - 0) * 1 + (grownCap w (0 + n) 0 3 - (0 + n)) * 1 = _
    omega

/-- What the first k of two lists come to. -/
def lens (a b : Nat) : Nat → Nat | 0 => 0 | 1 => a | _ => a + b
def cats (xs ys : List Int) : Nat → List Int | 0 => [] | 1 => xs | _ => xs ++ ys

end Go.Proofs.Ytbdofgkcedpamaa
end

section
/-
  Chapter 3, in the program: slices.Concat of two lists, either of which may be nil.
-/
namespace Go.Proofs.Ytbdofgkcedpamaa
set_option maxRecDepth 100000
open Go.RowKit

set_option maxHeartbeats 1000000 in
theorem iCatss (p ga oa m na gb ob n nb : Nat) (xs ys : List Int) (w : World) (hx : xs.length = na) (hy : ys.length = nb) (hp0 : w.cell? ⟨p, 0, none⟩ = some (.slice (some ⟨ga, oa, none⟩) na m)) (hp1 : w.cell? ⟨p, 1, none⟩ = some (.slice (some ⟨gb, ob, none⟩) nb n)) (h : Rd w (some ⟨ga, oa, none⟩) xs) (ha : na ≤ 1048576) (h' : Rd w (some ⟨gb, ob, none⟩) ys) (hb : nb ≤ 1048576) :
    Calls Try.prog 72 #[.slice (some ⟨p, 0, none⟩) 2 2] w (Copy (xs ++ ys) w) := by
  have HX : Hid (xs.length = na) := hx
  have HY : Hid (ys.length = nb) := hy
  have H := Lib.hid h
  have H' := Lib.hid h'
  have P0 := Lib.hid hp0
  have P1 := Lib.hid hp1
  clear hx h hy h' hp0 hp1
  go_enter Try.func72, Try.ntmps72
  go_wp2_with fail
  go_loop [3, 5, 11] (fun sz _ i => ∃ k : Nat, i = .int .i64 k ∧ k ≤ 2 ∧ sz = .int .i64 (lens na nb k)) (fun _ _ i => 2 - (intOf i).toNat)
  case atStart => exact ⟨0, rfl, by omega, rfl⟩
  case round =>
    obtain ⟨k, rfl, hk, rfl⟩ := hrel
    have P0 := P0.out
    have P1 := P1.out
    match k, hk with
    | 0, _ =>
      simp only [lens]
      go_wp2_with fail
      go_round
      case rel => exact ⟨1, rfl, by omega, by simp⟩
      case measure => simp [intOf]
    | 1, _ =>
      simp only [lens]
      go_wp2_with fail
      go_round
      case rel => exact ⟨2, rfl, by omega, by simp⟩
      case measure => simp [intOf]
    | 2, _ =>
      simp only [lens]
      go_wp2_with fail
      clear P0 P1
      rw [← Int.natCast_add]
      refine (iGrow (na + nb) _ (by omega)).mono ?_
      rintro e w1 ⟨v0, rfl, own, hbl⟩
      have OW := Lib.hid own
      have B := Lib.hid hbl
      obtain ⟨fi, hfi, hz0, hz1, hz2⟩ := facts_int
      clear own hbl
      go_wp2_with fail
      go_loopw [6, 8, 27] (fun s6 _ i wr => ∃ (k : Nat) (v : Value), v = s6 ∧ i = .int .i64 k ∧ k ≤ 2 ∧ wr.ownsRow w.heap.size 3 1 v (lens na nb k) ((cats xs ys k).map (Value.int .i64)) ∧ Below w.heap.size w wr) (fun _ _ i _ => 2 - (intOf i).toNat)
      case atStart => exact ⟨0, _, rfl, rfl, by omega, OW.out, B.out⟩
      case round =>
      clear OW B
      obtain ⟨k, v, rfl, rfl, hk, own, hbl⟩ := hrel
      have OW := Lib.hid own
      have B := Lib.hid hbl
      clear own hbl

      match k, hk with
      | 0, _ =>
        have hown : wr.ownsRow w.heap.size 3 1 v 0 ([]) := OW.out
        have PC : wr.cell? ⟨p, 0, none⟩ = some (.slice (some ⟨ga, oa, none⟩) na m) := (B.out.cell (p := ⟨p, 0, none⟩) (World.block_lt_of_cell? w _ P0.out)).trans P0.out
        have news : ∀ (j : Nat) u, (xs.map (Value.int .i64))[j]? = some u → wr.cell? ((⟨ga, oa, none⟩ : Addr).add j) = some u := by
          intro j u hu
          obtain ⟨hj, rfl⟩ := news_ints _ j u hu
          have hc := H.out.cells j hj
          have hc := (B.out.cell (World.block_lt_of_cell? w _ hc)).trans hc
          rw [show (⟨ga, oa, none⟩ : Addr).add j = ⟨ga, oa + j, none⟩ by simp only [Addr.add]; split <;> simp_all]
          exact hc
        have n1 : ∀ u ∈ xs.map (Value.int .i64), u.oneCell' = true := by
          intro u hu
          obtain ⟨z, -, rfl⟩ := List.mem_map.mp hu
          rfl
        have ln : (xs.map (Value.int .i64)).length = na := by rw [List.length_map, HX.out]
        obtain ⟨NW, hNW⟩ : ∃ l, xs.map (Value.int .i64) = l := ⟨_, rfl⟩
        rw [hNW] at news n1 ln
        have EN := Lib.hid hNW
        have N1 := Lib.hid n1
        have LN := Lib.hid ln
        have NS := Lib.hid news
        have HO := Lib.hid hown
        clear hNW n1 ln news hown OW
        go_wp2_with (at_builtin; refine wpList_append_own_at _ rfl _ _ 22 rfl w.heap.size 3 fi (.int .i64 0) 1 8 underlying_ints hfi hz0 hz1 hz2 rfl (by decide) _ _ _ rfl HO.out ⟨ga, oa, none⟩ na m NW ?hx ?hl ?hnews ?h1 ?h63 ?hbytes ?hbase ?hnext)
        case hx => rfl
        case hl => rw [LN.out, Nat.mul_one]
        case hnews => exact NS.out
        case h1 => exact N1.out
        case h63 => unfold maxLen; omega
        case hbytes => omega
        case hbase => exact B.out.size
        case hnext =>
          rintro v2 wr2 ho hg - -
          have O2 : wr2.ownsRow w.heap.size 3 1 v2 na (xs.map (Value.int .i64)) := by have := ho; rw [← EN.out] at this; simpa using this
          have B2 := Lib.hid (B.out.grown hg B.out.size (fun k hk => ownBlock_ge HO.out hk))
          have O2 := Lib.hid O2
          clear ho hg
          go_wp2_with fail
          go_roundw
          case rel => exact ⟨1, _, rfl, rfl, by omega, O2.out, B2.out⟩
          case measure => simp [intOf]
      | 1, _ =>
        have hown : wr.ownsRow w.heap.size 3 1 v na (xs.map (Value.int .i64)) := OW.out
        have PC : wr.cell? ⟨p, 1, none⟩ = some (.slice (some ⟨gb, ob, none⟩) nb n) := (B.out.cell (p := ⟨p, 1, none⟩) (World.block_lt_of_cell? w _ P1.out)).trans P1.out
        have news : ∀ (j : Nat) u, (ys.map (Value.int .i64))[j]? = some u → wr.cell? ((⟨gb, ob, none⟩ : Addr).add j) = some u := by
          intro j u hu
          obtain ⟨hj, rfl⟩ := news_ints _ j u hu
          have hc := H'.out.cells j hj
          have hc := (B.out.cell (World.block_lt_of_cell? w _ hc)).trans hc
          rw [show (⟨gb, ob, none⟩ : Addr).add j = ⟨gb, ob + j, none⟩ by simp only [Addr.add]; split <;> simp_all]
          exact hc
        have n1 : ∀ u ∈ ys.map (Value.int .i64), u.oneCell' = true := by
          intro u hu
          obtain ⟨z, -, rfl⟩ := List.mem_map.mp hu
          rfl
        have ln : (ys.map (Value.int .i64)).length = nb := by rw [List.length_map, HY.out]
        obtain ⟨NW, hNW⟩ : ∃ l, ys.map (Value.int .i64) = l := ⟨_, rfl⟩
        rw [hNW] at news n1 ln
        have EN := Lib.hid hNW
        have N1 := Lib.hid n1
        have LN := Lib.hid ln
        have NS := Lib.hid news
        have HO := Lib.hid hown
        clear hNW n1 ln news hown OW
        go_wp2_with (at_builtin; refine wpList_append_own_at _ rfl _ _ 22 rfl w.heap.size 3 fi (.int .i64 0) 1 8 underlying_ints hfi hz0 hz1 hz2 rfl (by decide) _ _ _ rfl HO.out ⟨gb, ob, none⟩ nb n NW ?hx ?hl ?hnews ?h1 ?h63 ?hbytes ?hbase ?hnext)
        case hx => rfl
        case hl => rw [LN.out, Nat.mul_one]
        case hnews => exact NS.out
        case h1 => exact N1.out
        case h63 => unfold maxLen; omega
        case hbytes => omega
        case hbase => exact B.out.size
        case hnext =>
          rintro v2 wr2 ho hg - -
          have O2 : wr2.ownsRow w.heap.size 3 1 v2 (na + nb) ((xs ++ ys).map (Value.int .i64)) := by have := ho; rw [← EN.out] at this; simpa using this
          have B2 := Lib.hid (B.out.grown hg B.out.size (fun k hk => ownBlock_ge HO.out hk))
          have O2 := Lib.hid O2
          clear ho hg
          go_wp2_with fail
          go_roundw
          case rel => exact ⟨2, _, rfl, rfl, by omega, O2.out, B2.out⟩
          case measure => simp [intOf]
      | 2, _ =>
        have own : Own w.heap.size wr v (xs ++ ys) := Own.of_row (by have := OW.out; simp only [lens, cats] at this; simpa [HX.out, HY.out] using this) (by rw [List.length_append]; have h1 := HX.out; have h2 := HY.out; omega)
        have OO := Lib.hid own
        clear own OW
        go_wp2_with fail
        go_ret
        exact ⟨_, rfl, OO.out, B.out⟩
set_option maxHeartbeats 1000000 in
theorem iCatsn (p ga oa m na : Nat) (xs : List Int) (w : World) (hx : xs.length = na) (hp0 : w.cell? ⟨p, 0, none⟩ = some (.slice (some ⟨ga, oa, none⟩) na m)) (hp1 : w.cell? ⟨p, 1, none⟩ = some (.slice none 0 0)) (h : Rd w (some ⟨ga, oa, none⟩) xs) (ha : na ≤ 1048576) :
    Calls Try.prog 72 #[.slice (some ⟨p, 0, none⟩) 2 2] w (Copy (xs ++ ([] : List Int)) w) := by
  have HX : Hid (xs.length = na) := hx
  have HY : Hid (([] : List Int).length = 0) := rfl
  have H := Lib.hid h
  have P0 := Lib.hid hp0
  have P1 := Lib.hid hp1
  clear hx h hp0 hp1
  go_enter Try.func72, Try.ntmps72
  go_wp2_with fail
  go_loop [3, 5, 11] (fun sz _ i => ∃ k : Nat, i = .int .i64 k ∧ k ≤ 2 ∧ sz = .int .i64 (lens na 0 k)) (fun _ _ i => 2 - (intOf i).toNat)
  case atStart => exact ⟨0, rfl, by omega, rfl⟩
  case round =>
    obtain ⟨k, rfl, hk, rfl⟩ := hrel
    have P0 := P0.out
    have P1 := P1.out
    match k, hk with
    | 0, _ =>
      simp only [lens]
      go_wp2_with fail
      go_round
      case rel => exact ⟨1, rfl, by omega, by simp⟩
      case measure => simp [intOf]
    | 1, _ =>
      simp only [lens]
      go_wp2_with fail
      go_round
      case rel => exact ⟨2, rfl, by omega, by simp⟩
      case measure => simp [intOf]
    | 2, _ =>
      simp only [lens]
      go_wp2_with fail
      clear P0 P1
      refine (iGrow na _ (by omega)).mono ?_
      rintro e w1 ⟨v0, rfl, own, hbl⟩
      have OW := Lib.hid own
      have B := Lib.hid hbl
      obtain ⟨fi, hfi, hz0, hz1, hz2⟩ := facts_int
      clear own hbl
      go_wp2_with fail
      go_loopw [6, 8, 27] (fun s6 _ i wr => ∃ (k : Nat) (v : Value), v = s6 ∧ i = .int .i64 k ∧ k ≤ 2 ∧ wr.ownsRow w.heap.size 3 1 v (lens na 0 k) ((cats xs ([] : List Int) k).map (Value.int .i64)) ∧ Below w.heap.size w wr) (fun _ _ i _ => 2 - (intOf i).toNat)
      case atStart => exact ⟨0, _, rfl, rfl, by omega, OW.out, B.out⟩
      case round =>
      clear OW B
      obtain ⟨k, v, rfl, rfl, hk, own, hbl⟩ := hrel
      have OW := Lib.hid own
      have B := Lib.hid hbl
      clear own hbl

      match k, hk with
      | 0, _ =>
        have hown : wr.ownsRow w.heap.size 3 1 v 0 ([]) := OW.out
        have PC : wr.cell? ⟨p, 0, none⟩ = some (.slice (some ⟨ga, oa, none⟩) na m) := (B.out.cell (p := ⟨p, 0, none⟩) (World.block_lt_of_cell? w _ P0.out)).trans P0.out
        have news : ∀ (j : Nat) u, (xs.map (Value.int .i64))[j]? = some u → wr.cell? ((⟨ga, oa, none⟩ : Addr).add j) = some u := by
          intro j u hu
          obtain ⟨hj, rfl⟩ := news_ints _ j u hu
          have hc := H.out.cells j hj
          have hc := (B.out.cell (World.block_lt_of_cell? w _ hc)).trans hc
          rw [show (⟨ga, oa, none⟩ : Addr).add j = ⟨ga, oa + j, none⟩ by simp only [Addr.add]; split <;> simp_all]
          exact hc
        have n1 : ∀ u ∈ xs.map (Value.int .i64), u.oneCell' = true := by
          intro u hu
          obtain ⟨z, -, rfl⟩ := List.mem_map.mp hu
          rfl
        have ln : (xs.map (Value.int .i64)).length = na := by rw [List.length_map, HX.out]
        obtain ⟨NW, hNW⟩ : ∃ l, xs.map (Value.int .i64) = l := ⟨_, rfl⟩
        rw [hNW] at news n1 ln
        have EN := Lib.hid hNW
        have N1 := Lib.hid n1
        have LN := Lib.hid ln
        have NS := Lib.hid news
        have HO := Lib.hid hown
        clear hNW n1 ln news hown OW
        go_wp2_with (at_builtin; refine wpList_append_own_at _ rfl _ _ 22 rfl w.heap.size 3 fi (.int .i64 0) 1 8 underlying_ints hfi hz0 hz1 hz2 rfl (by decide) _ _ _ rfl HO.out ⟨ga, oa, none⟩ na m NW ?hx ?hl ?hnews ?h1 ?h63 ?hbytes ?hbase ?hnext)
        case hx => rfl
        case hl => rw [LN.out, Nat.mul_one]
        case hnews => exact NS.out
        case h1 => exact N1.out
        case h63 => unfold maxLen; omega
        case hbytes => omega
        case hbase => exact B.out.size
        case hnext =>
          rintro v2 wr2 ho hg - -
          have O2 : wr2.ownsRow w.heap.size 3 1 v2 na (xs.map (Value.int .i64)) := by have := ho; rw [← EN.out] at this; simpa using this
          have B2 := Lib.hid (B.out.grown hg B.out.size (fun k hk => ownBlock_ge HO.out hk))
          have O2 := Lib.hid O2
          clear ho hg
          go_wp2_with fail
          go_roundw
          case rel => exact ⟨1, _, rfl, rfl, by omega, O2.out, B2.out⟩
          case measure => simp [intOf]
      | 1, _ =>
        have hown : wr.ownsRow w.heap.size 3 1 v na (xs.map (Value.int .i64)) := OW.out
        have PC : wr.cell? ⟨p, 1, none⟩ = some (.slice none 0 0) := (B.out.cell (p := ⟨p, 1, none⟩) (World.block_lt_of_cell? w _ P1.out)).trans P1.out
        have HO : Hid (wr.ownsRow w.heap.size 3 1 v (lens na 0 2) ((cats xs ([] : List Int) 2).map (Value.int .i64))) := by show wr.ownsRow w.heap.size 3 1 v (lens na 0 2) ((cats xs ([] : List Int) 2).map (Value.int .i64)); simpa [lens, cats] using hown
        rcases hown.2 with ⟨hv, -⟩ | ⟨g9, cap9, cur9, hv, -, -, hc9, -⟩
        · subst hv
          clear hown OW
          go_wp2_with fail
          go_roundw
          case rel => exact ⟨2, _, rfl, rfl, by omega, HO.out, B.out⟩
          case measure => simp [intOf]
        · subst hv
          clear hown OW
          go_wp2_with fail
          go_roundw
          case rel => exact ⟨2, _, rfl, rfl, by omega, HO.out, B.out⟩
          case measure => simp [intOf]
      | 2, _ =>
        have own : Own w.heap.size wr v (xs ++ ([] : List Int)) := Own.of_row (by have := OW.out; simp only [lens, cats] at this; simpa [HX.out, HY.out] using this) (by rw [List.length_append]; have h1 := HX.out; have h2 := HY.out; omega)
        have OO := Lib.hid own
        clear own OW
        go_wp2_with fail
        go_ret
        exact ⟨_, rfl, OO.out, B.out⟩
set_option maxHeartbeats 1000000 in
theorem iCatns (p gb ob n nb : Nat) (ys : List Int) (w : World) (hy : ys.length = nb) (hp0 : w.cell? ⟨p, 0, none⟩ = some (.slice none 0 0)) (hp1 : w.cell? ⟨p, 1, none⟩ = some (.slice (some ⟨gb, ob, none⟩) nb n)) (h' : Rd w (some ⟨gb, ob, none⟩) ys) (hb : nb ≤ 1048576) :
    Calls Try.prog 72 #[.slice (some ⟨p, 0, none⟩) 2 2] w (Copy (([] : List Int) ++ ys) w) := by
  have HX : Hid (([] : List Int).length = 0) := rfl
  have HY : Hid (ys.length = nb) := hy
  have H' := Lib.hid h'
  have P0 := Lib.hid hp0
  have P1 := Lib.hid hp1
  clear hy h' hp0 hp1
  go_enter Try.func72, Try.ntmps72
  go_wp2_with fail
  go_loop [3, 5, 11] (fun sz _ i => ∃ k : Nat, i = .int .i64 k ∧ k ≤ 2 ∧ sz = .int .i64 (lens 0 nb k)) (fun _ _ i => 2 - (intOf i).toNat)
  case atStart => exact ⟨0, rfl, by omega, rfl⟩
  case round =>
    obtain ⟨k, rfl, hk, rfl⟩ := hrel
    have P0 := P0.out
    have P1 := P1.out
    match k, hk with
    | 0, _ =>
      simp only [lens]
      go_wp2_with fail
      go_round
      case rel => exact ⟨1, rfl, by omega, by simp⟩
      case measure => simp [intOf]
    | 1, _ =>
      simp only [lens]
      go_wp2_with fail
      go_round
      case rel => exact ⟨2, rfl, by omega, by simp⟩
      case measure => simp [intOf]
    | 2, _ =>
      simp only [lens]
      go_wp2_with fail
      clear P0 P1
      refine (iGrow nb _ (by omega)).mono ?_
      rintro e w1 ⟨v0, rfl, own, hbl⟩
      have OW := Lib.hid own
      have B := Lib.hid hbl
      obtain ⟨fi, hfi, hz0, hz1, hz2⟩ := facts_int
      clear own hbl
      go_wp2_with fail
      go_loopw [6, 8, 27] (fun s6 _ i wr => ∃ (k : Nat) (v : Value), v = s6 ∧ i = .int .i64 k ∧ k ≤ 2 ∧ wr.ownsRow w.heap.size 3 1 v (lens 0 nb k) ((cats ([] : List Int) ys k).map (Value.int .i64)) ∧ Below w.heap.size w wr) (fun _ _ i _ => 2 - (intOf i).toNat)
      case atStart => exact ⟨0, _, rfl, rfl, by omega, OW.out, B.out⟩
      case round =>
      clear OW B
      obtain ⟨k, v, rfl, rfl, hk, own, hbl⟩ := hrel
      have OW := Lib.hid own
      have B := Lib.hid hbl
      clear own hbl

      match k, hk with
      | 0, _ =>
        have hown : wr.ownsRow w.heap.size 3 1 v 0 ([]) := OW.out
        have PC : wr.cell? ⟨p, 0, none⟩ = some (.slice none 0 0) := (B.out.cell (p := ⟨p, 0, none⟩) (World.block_lt_of_cell? w _ P0.out)).trans P0.out
        have HO : Hid (wr.ownsRow w.heap.size 3 1 v (lens 0 nb 1) ((cats ([] : List Int) ys 1).map (Value.int .i64))) := by show wr.ownsRow w.heap.size 3 1 v (lens 0 nb 1) ((cats ([] : List Int) ys 1).map (Value.int .i64)); simpa [lens, cats] using hown
        rcases hown.2 with ⟨hv, -⟩ | ⟨g9, cap9, cur9, hv, -, -, hc9, -⟩
        · subst hv
          clear hown OW
          go_wp2_with fail
          go_roundw
          case rel => exact ⟨1, _, rfl, rfl, by omega, HO.out, B.out⟩
          case measure => simp [intOf]
        · subst hv
          clear hown OW
          go_wp2_with fail
          go_roundw
          case rel => exact ⟨1, _, rfl, rfl, by omega, HO.out, B.out⟩
          case measure => simp [intOf]
      | 1, _ =>
        have hown : wr.ownsRow w.heap.size 3 1 v 0 (([] : List Int).map (Value.int .i64)) := OW.out
        have PC : wr.cell? ⟨p, 1, none⟩ = some (.slice (some ⟨gb, ob, none⟩) nb n) := (B.out.cell (p := ⟨p, 1, none⟩) (World.block_lt_of_cell? w _ P1.out)).trans P1.out
        have news : ∀ (j : Nat) u, (ys.map (Value.int .i64))[j]? = some u → wr.cell? ((⟨gb, ob, none⟩ : Addr).add j) = some u := by
          intro j u hu
          obtain ⟨hj, rfl⟩ := news_ints _ j u hu
          have hc := H'.out.cells j hj
          have hc := (B.out.cell (World.block_lt_of_cell? w _ hc)).trans hc
          rw [show (⟨gb, ob, none⟩ : Addr).add j = ⟨gb, ob + j, none⟩ by simp only [Addr.add]; split <;> simp_all]
          exact hc
        have n1 : ∀ u ∈ ys.map (Value.int .i64), u.oneCell' = true := by
          intro u hu
          obtain ⟨z, -, rfl⟩ := List.mem_map.mp hu
          rfl
        have ln : (ys.map (Value.int .i64)).length = nb := by rw [List.length_map, HY.out]
        obtain ⟨NW, hNW⟩ : ∃ l, ys.map (Value.int .i64) = l := ⟨_, rfl⟩
        rw [hNW] at news n1 ln
        have EN := Lib.hid hNW
        have N1 := Lib.hid n1
        have LN := Lib.hid ln
        have NS := Lib.hid news
        have HO := Lib.hid hown
        clear hNW n1 ln news hown OW
        go_wp2_with (at_builtin; refine wpList_append_own_at _ rfl _ _ 22 rfl w.heap.size 3 fi (.int .i64 0) 1 8 underlying_ints hfi hz0 hz1 hz2 rfl (by decide) _ _ _ rfl HO.out ⟨gb, ob, none⟩ nb n NW ?hx ?hl ?hnews ?h1 ?h63 ?hbytes ?hbase ?hnext)
        case hx => rfl
        case hl => rw [LN.out, Nat.mul_one]
        case hnews => exact NS.out
        case h1 => exact N1.out
        case h63 => unfold maxLen; omega
        case hbytes => omega
        case hbase => exact B.out.size
        case hnext =>
          rintro v2 wr2 ho hg - -
          have O2 : wr2.ownsRow w.heap.size 3 1 v2 (0 + nb) ((([] : List Int) ++ ys).map (Value.int .i64)) := by have := ho; rw [← EN.out] at this; simpa using this
          have B2 := Lib.hid (B.out.grown hg B.out.size (fun k hk => ownBlock_ge HO.out hk))
          have O2 := Lib.hid O2
          clear ho hg
          go_wp2_with fail
          go_roundw
          case rel => exact ⟨2, _, rfl, rfl, by omega, O2.out, B2.out⟩
          case measure => simp [intOf]
      | 2, _ =>
        have own : Own w.heap.size wr v (([] : List Int) ++ ys) := Own.of_row (by have := OW.out; simp only [lens, cats] at this; simpa [HX.out, HY.out] using this) (by rw [List.length_append]; have h1 := HX.out; have h2 := HY.out; omega)
        have OO := Lib.hid own
        clear own OW
        go_wp2_with fail
        go_ret
        exact ⟨_, rfl, OO.out, B.out⟩
set_option maxHeartbeats 1000000 in
theorem iCatnn (p : Nat)  (w : World) (hp0 : w.cell? ⟨p, 0, none⟩ = some (.slice none 0 0)) (hp1 : w.cell? ⟨p, 1, none⟩ = some (.slice none 0 0)) :
    Calls Try.prog 72 #[.slice (some ⟨p, 0, none⟩) 2 2] w (Copy (([] : List Int) ++ ([] : List Int)) w) := by
  have HX : Hid (([] : List Int).length = 0) := rfl
  have HY : Hid (([] : List Int).length = 0) := rfl
  have P0 := Lib.hid hp0
  have P1 := Lib.hid hp1
  clear hp0 hp1
  go_enter Try.func72, Try.ntmps72
  go_wp2_with fail
  go_loop [3, 5, 11] (fun sz _ i => ∃ k : Nat, i = .int .i64 k ∧ k ≤ 2 ∧ sz = .int .i64 (lens 0 0 k)) (fun _ _ i => 2 - (intOf i).toNat)
  case atStart => exact ⟨0, rfl, by omega, rfl⟩
  case round =>
    obtain ⟨k, rfl, hk, rfl⟩ := hrel
    have P0 := P0.out
    have P1 := P1.out
    match k, hk with
    | 0, _ =>
      simp only [lens]
      go_wp2_with fail
      go_round
      case rel => exact ⟨1, rfl, by omega, by simp⟩
      case measure => simp [intOf]
    | 1, _ =>
      simp only [lens]
      go_wp2_with fail
      go_round
      case rel => exact ⟨2, rfl, by omega, by simp⟩
      case measure => simp [intOf]
    | 2, _ =>
      simp only [lens]
      go_wp2_with fail
      clear P0 P1
      refine (iGrow 0 _ (by omega)).mono ?_
      rintro e w1 ⟨v0, rfl, own, hbl⟩
      have OW := Lib.hid own
      have B := Lib.hid hbl
      obtain ⟨fi, hfi, hz0, hz1, hz2⟩ := facts_int
      clear own hbl
      go_wp2_with fail
      go_loopw [6, 8, 27] (fun s6 _ i wr => ∃ (k : Nat) (v : Value), v = s6 ∧ i = .int .i64 k ∧ k ≤ 2 ∧ wr.ownsRow w.heap.size 3 1 v (lens 0 0 k) ((cats ([] : List Int) ([] : List Int) k).map (Value.int .i64)) ∧ Below w.heap.size w wr) (fun _ _ i _ => 2 - (intOf i).toNat)
      case atStart => exact ⟨0, _, rfl, rfl, by omega, OW.out, B.out⟩
      case round =>
      clear OW B
      obtain ⟨k, v, rfl, rfl, hk, own, hbl⟩ := hrel
      have OW := Lib.hid own
      have B := Lib.hid hbl
      clear own hbl

      match k, hk with
      | 0, _ =>
        have hown : wr.ownsRow w.heap.size 3 1 v 0 ([]) := OW.out
        have PC : wr.cell? ⟨p, 0, none⟩ = some (.slice none 0 0) := (B.out.cell (p := ⟨p, 0, none⟩) (World.block_lt_of_cell? w _ P0.out)).trans P0.out
        have HO : Hid (wr.ownsRow w.heap.size 3 1 v (lens 0 0 1) ((cats ([] : List Int) ([] : List Int) 1).map (Value.int .i64))) := by show wr.ownsRow w.heap.size 3 1 v (lens 0 0 1) ((cats ([] : List Int) ([] : List Int) 1).map (Value.int .i64)); simpa [lens, cats] using hown
        rcases hown.2 with ⟨hv, -⟩ | ⟨g9, cap9, cur9, hv, -, -, hc9, -⟩
        · subst hv
          clear hown OW
          go_wp2_with fail
          go_roundw
          case rel => exact ⟨1, _, rfl, rfl, by omega, HO.out, B.out⟩
          case measure => simp [intOf]
        · subst hv
          clear hown OW
          go_wp2_with fail
          go_roundw
          case rel => exact ⟨1, _, rfl, rfl, by omega, HO.out, B.out⟩
          case measure => simp [intOf]
      | 1, _ =>
        have hown : wr.ownsRow w.heap.size 3 1 v 0 (([] : List Int).map (Value.int .i64)) := OW.out
        have PC : wr.cell? ⟨p, 1, none⟩ = some (.slice none 0 0) := (B.out.cell (p := ⟨p, 1, none⟩) (World.block_lt_of_cell? w _ P1.out)).trans P1.out
        have HO : Hid (wr.ownsRow w.heap.size 3 1 v (lens 0 0 2) ((cats ([] : List Int) ([] : List Int) 2).map (Value.int .i64))) := by show wr.ownsRow w.heap.size 3 1 v (lens 0 0 2) ((cats ([] : List Int) ([] : List Int) 2).map (Value.int .i64)); simpa [lens, cats] using hown
        rcases hown.2 with ⟨hv, -⟩ | ⟨g9, cap9, cur9, hv, -, -, hc9, -⟩
        · subst hv
          clear hown OW
          go_wp2_with fail
          go_roundw
          case rel => exact ⟨2, _, rfl, rfl, by omega, HO.out, B.out⟩
          case measure => simp [intOf]
        · subst hv
          clear hown OW
          go_wp2_with fail
          go_roundw
          case rel => exact ⟨2, _, rfl, rfl, by omega, HO.out, B.out⟩
          case measure => simp [intOf]
      | 2, _ =>
        have own : Own w.heap.size wr v (([] : List Int) ++ ([] : List Int)) := Own.of_row (by have := OW.out; simp only [lens, cats] at this; simpa [HX.out, HY.out] using this) (by rw [List.length_append]; have h1 := HX.out; have h2 := HY.out; omega)
        have OO := Lib.hid own
        clear own OW
        go_wp2_with fail
        go_ret
        exact ⟨_, rfl, OO.out, B.out⟩
/-- Either may be nil. -/
theorem iCat (p m na n nb : Nat) (a b : Option Addr) (xs ys : List Int) (w : World) (hx : xs.length = na) (hy : ys.length = nb) (hp0 : w.cell? ⟨p, 0, none⟩ = some (.slice a na m)) (hp1 : w.cell? ⟨p, 1, none⟩ = some (.slice b nb n)) (h : Rd w a xs) (h' : Rd w b ys) (sa : Spot a) (sb : Spot b) (za : a = none → m = 0) (zb : b = none → n = 0) (ha : na ≤ 1048576) (hb : nb ≤ 1048576) :
    Calls Try.prog 72 #[.slice (some ⟨p, 0, none⟩) 2 2] w (Copy (xs ++ ys) w) := by
  have nil : ∀ (w : World) (xs : List Int), Rd w none xs → xs = [] := fun w xs h => by
    cases xs with
    | nil => rfl
    | cons x xs => obtain ⟨b, o, h1, -⟩ := h 0 (by simp); exact absurd h1 (by simp)
  rcases sa with rfl | ⟨ga, oa, rfl⟩
  · obtain rfl := nil _ _ h
    obtain rfl : m = 0 := za rfl
    obtain rfl : na = 0 := hx.symm
    rcases sb with rfl | ⟨gb, ob, rfl⟩
    · obtain rfl := nil _ _ h'
      obtain rfl : n = 0 := zb rfl
      obtain rfl : nb = 0 := hy.symm
      exact iCatnn p w hp0 hp1
    · exact iCatns p gb ob n nb ys w hy hp0 hp1 h' hb
  · rcases sb with rfl | ⟨gb, ob, rfl⟩
    · obtain rfl := nil _ _ h'
      obtain rfl : n = 0 := zb rfl
      obtain rfl : nb = 0 := hy.symm
      exact iCatsn p ga oa m na xs w hx hp0 hp1 h ha
    · exact iCatss p ga oa m na gb ob n nb xs ys w hx hy hp0 hp1 h ha h' hb
end Go.Proofs.Ytbdofgkcedpamaa
end
