/-
  Texts of this seat, joined: Draw9 · HmX · RowsOwn · RI1 · RI2 · RdCells · Shelf · CloneI · CopyI · DoneI · RI3
-/
import Derived.Handy
import Derived.Deep.QuietTactic
import Derived.Ground.Names2Prog
import Derived.Shelf.Slices.Clone
import Derived.Test.YtpelnfenfeoeeaaProg
import Derived.Deep.RegionHeld3
import Derived.Deep.DeepCutAuto
import Derived.Test.YtpelnfenfeoeeaaPk1
import Derived.Test.YtpelnfenfeoeeaaPk2
import Derived.Test.YtpelnfenfeoeeaaPk3
import Derived.Test.YtpelnfenfeoeeaaPk4
import Derived.Test.YtpelnfenfeoeeaaPk5

section
/-
  The drawing of a unimodular matrix.
-/
namespace Go.Proofs.Ytpelnfenfeoeeaa
set_option maxRecDepth 100000
open Go.RowKit

set_option maxRecDepth 100000 in
set_option maxHeartbeats 1000000 in
theorem sIdentC (n : Nat) (w : World) (hn : n ≤ 24) :
    Calls Try.prog 55 #[.int .i64 n] w (fun e w' => ∃ g : Nat, e = .returned (.tuple #[.agg #[.int .i64 n, .int .i64 n, .slice (some ⟨g, 0, none⟩) (n * n) (n * n)], .bool true]) ∧ w.heap.size ≤ g ∧ IntsC w' g (n * n) (idL n n) ∧ Below w.heap.size w w') := by
  have hle : n * n ≤ 24 * 24 := Nat.mul_le_mul hn hn
  have B0 : ∀ o1, Below w.heap.size w (w.alloc o1) := fun o1 => (Below.refl _ _).alloc (Nat.le_refl _) _
  have BH := Lib.hid B0
  clear B0
  go_enter Try.func55, Try.ntmps55
  go_wp2_with fail
  refine (sIn_t n 0 24 _ (by omega) (by omega)).mono ?_
  rintro e w2 ⟨rfl, rfl⟩
  go_wp2_with fail
  have K2 : Hid (Blk3 (w.alloc (.cells #[.int .i64 0, .int .i64 0, .slice none 0 0] 26)) w.heap.size 26 (.int .i64 0) (.int .i64 0) (.slice none 0 0)) := Blk3.at_ _ _ _ _ rfl
  have B := Lib.hid (BH.out (.cells #[.int .i64 0, .int .i64 0, .slice none 0 0] 26))
  refine (sNewC n n _ (by omega) (by omega)).mono ?_
  rintro e w3 ⟨g, rfl, hg, hi, hb⟩
  have l2 := Nat.lt_of_lt_of_le K2.out.lt hg
  clear hg
  obtain ⟨N, hN⟩ : ∃ N, n * n = N := ⟨_, rfl⟩
  have HN := Lib.hid hN
  rw [hN] at hi hle ⊢
  clear hN
  have K2 := Lib.hid (K2.out.keep hb K2.out.lt)
  have B := Lib.hid (B.out.trans (hb.mono B.out.size))
  have I := Lib.hid hi
  have gl := hi.lt
  clear hb hi
  have BA : Hid (Below w.heap.size w (w3.alloc (.cells #[.int .i64 n, .int .i64 n, .slice (some ⟨g, 0, none⟩) N N] 26))) := B.out.alloc B.out.size _
  have K2 := Lib.hid (K2.out.old (.cells #[.int .i64 n, .int .i64 n, .slice (some ⟨g, 0, none⟩) N N] 26))
  have K6 : Hid (Blk3 (w3.alloc (.cells #[.int .i64 n, .int .i64 n, .slice (some ⟨g, 0, none⟩) N N] 26)) w3.heap.size 26 (.int .i64 n) (.int .i64 n) (.slice (some ⟨g, 0, none⟩) N N)) := Blk3.at_ _ _ _ _ rfl
  have I := Lib.hid (I.out.old (.cells #[.int .i64 n, .int .i64 n, .slice (some ⟨g, 0, none⟩) N N] 26))
  go_wp2_with fail
  go_loopw [5] (fun i wr => ∃ k : Nat, i = .int .i64 k ∧ k ≤ n ∧ IntsC wr g N (idL n k) ∧ (w3.alloc (.cells #[.int .i64 n, .int .i64 n, .slice (some ⟨g, 0, none⟩) N N] 26)).grownBy wr (some g)) (fun i _ => n - (intOf i).toNat)
  case atStart => exact ⟨0, rfl, by omega, by rw [idL_zero, HN.out]; exact I.out, World.grownBy.refl _ _⟩
  case round =>
    obtain ⟨k, rfl, hk, hi, hgr⟩ := hrel
    have I := Lib.hid hi
    have G := Lib.hid hgr
    clear hi hgr
    have R2 := Lib.hid (K2.out.keepOne G.out (by omega))
    have R6 := Lib.hid (K6.out.keepOne G.out (by omega))
    obtain ⟨r0, r1, r2, -, -, -⟩ := R6.out.all
    by_cases hlt : k < n
    · have i1 : k * n + k < N := by rw [← HN.out]; exact idx_lt hlt hlt
      have hold := I.out.ints.cell (i := k * n + k) (by rw [idL_length, HN.out]; exact i1)
      rw [idL_at] at hold
      have hfr := I.out.ints.free (k * n + k)
      have c1 : (k : Int) * (n : Int) = ((k * n : Nat) : Int) := (Int.natCast_mul _ _).symm
      have d1 : 0 ≤ (k : Int) * (n : Int) ∧ (k : Int) * (n : Int) ≤ 600 := by rw [c1]; omega
      have e1 : 0 ≤ (k : Int) * (n : Int) + (k : Int) := by omega
      have e2 : (k : Int) * (n : Int) + (k : Int) < (N : Int) := by rw [c1]; omega
      have e3 : ((k : Int) * (n : Int) + (k : Int)).toNat = k * n + k := by rw [c1]; omega
      obtain ⟨d11, d12⟩ := d1
      have v1 : IntKind.i64.wrap ((k : Int) * (n : Int)) = (k : Int) * (n : Int) := IntWalk.i64_in _ (by omega)
      have v2 : IntKind.i64.wrap ((k : Int) * (n : Int) + (k : Int)) = (k : Int) * (n : Int) + (k : Int) := IntWalk.i64_in _ (by omega)
      clear c1
      go_wp2_with fail
      go_roundw
      case rel =>
        refine ⟨k + 1, by go_num, by omega, ?_, ?_⟩
        · rw [← idL_step]
          first | exact I.out.set (k * n + k) (by rw [idL_length, HN.out]; exact i1) _ | exact I.out.drew.set (k * n + k) (by rw [idL_length, HN.out]; exact i1) _
        · first | exact grown_set_one G.out rfl _ | exact grown_drew_one (grown_set_one G.out rfl _)
      case measure => simp [intOf]; omega
    · have hkn : k = n := by omega
      subst hkn
      have BW := Lib.hid (BA.out.trans (below_of_one G.out (by omega) BA.out.size))
      obtain ⟨s0, s1, s2, t0, t1, t2⟩ := R2.out.all
      go_wp2_with fail
      obtain ⟨E0, E1, E2, -, -, -⟩ := (((R2.out.set0 (.int .i64 k)).set1 (.int .i64 k)).set2 (.slice (some ⟨g, 0, none⟩) N N)).all
      refine bodyPost_ret (v := .tuple #[.agg #[.int .i64 k, .int .i64 k, .slice (some ⟨g, 0, none⟩) N N], .bool true]) (by simp [results, Try.results55, go_sem, E0, E1, E2]) rfl ⟨g, by rw [HN.out], by omega, ?_, ?_⟩
      · rw [HN.out]
        exact ((I.out.far (by show g ≠ w.heap.size; omega) _).far (by show g ≠ w.heap.size; omega) _).far (by show g ≠ w.heap.size; omega) _
      · exact ((BW.out.setCell (Nat.le_refl _) _).setCell (Nat.le_refl _) _).setCell (Nat.le_refl _) _
theorem Blk4.setJ {w : World} {b : Nat} {t : TypeId} {p q r s : Value} (h : Blk4 w b t p q r s) (u : Value) : Blk4 (w.setCell ⟨b, 2, none⟩ u) b t p q u s := by
  unfold Blk4 at *
  obtain ⟨hlt, hget⟩ := Array.getElem?_eq_some_iff.mp h
  simp [World.setCell, hlt, Array.getElem_modify, hget]
theorem Blk4.setT {w : World} {b : Nat} {t : TypeId} {p q r s : Value} (h : Blk4 w b t p q r s) (u : Value) : Blk4 (w.setCell ⟨b, 3, none⟩ u) b t p q r u := by
  unfold Blk4 at *
  obtain ⟨hlt, hget⟩ := Array.getElem?_eq_some_iff.mp h
  simp [World.setCell, hlt, Array.getElem_modify, hget]
theorem Blk4.frs {w w' : World} {b : Nat} {t : TypeId} {x y z u : Value} {p : Nat → Prop} (h : Blk4 w b t x y z u) (hf : FrS p w w') (hb : ¬ p b) : Blk4 w' b t x y z u := (hf.block b h.lt hb).trans h
/-- What l6Unimodular gives. -/
def UniMat (n cb : Nat) (w : World) (e : Ending) (w' : World) : Prop := ∃ (g : Nat) (zs : List Int), e = .returned (.agg #[.int .i64 n, .int .i64 n, .slice (some ⟨g, 0, none⟩) (n * n) (n * n)]) ∧ w.heap.size ≤ g ∧ zs.length = n * n ∧ IntsC w' g (n * n) zs ∧ Cur w' cb ∧ FrS (fun k => k = cb ∨ w.heap.size ≤ k) w w'
set_option maxRecDepth 100000 in
set_option maxHeartbeats 2000000 in
theorem l6Uni (w : World) (cb n : Nat) (hc : Cur w cb) (hn : n ≤ 24) : Calls Try.prog 145 #[.pointer (some ⟨cb, 0, none⟩), .int .i64 n] w (UniMat n cb w) := by
  have hlt := hc.lt
  have C0 := Lib.hid hc
  clear hc
  go_enter Try.func145, Try.ntmps145
  go_wp2_with fail
  refine (sIdentC n _ (by omega)).mono ?_
  rintro e w1 ⟨g, rfl, hg, hi, hb⟩
  have hg : w.heap.size < g := by simp at hg; omega
  obtain ⟨N, hN⟩ : ∃ N, n * n = N := ⟨_, rfl⟩
  have hle : N ≤ 24 * 24 := by rw [← hN]; exact Nat.mul_le_mul hn hn
  have HN := Lib.hid hN
  have HL : Hid ((idL n n).length = N) := by show _ = _; rw [idL_length, hN]
  rw [hN] at hi ⊢
  have K4 : Hid (Blk3 (w1.alloc (.cells #[.int .i64 n, .int .i64 n, .slice (some ⟨g, 0, none⟩) N N] 26)) w.heap.size 26 (.int .i64 0) (.int .i64 0) (.slice none 0 0)) := ((Blk3.at_ _ _ _ _ rfl).keep hb (by simp)).old _
  have K5 : Hid (Blk3 (w1.alloc (.cells #[.int .i64 n, .int .i64 n, .slice (some ⟨g, 0, none⟩) N N] 26)) w1.heap.size 26 (.int .i64 n) (.int .i64 n) (.slice (some ⟨g, 0, none⟩) N N)) := Blk3.at_ _ _ _ _ rfl
  have F1 : Hid (FrS (fun k => k = cb ∨ w.heap.size ≤ k) w (w1.alloc (.cells #[.int .i64 n, .int .i64 n, .slice (some ⟨g, 0, none⟩) N N] 26))) := (((FrS.refl _ w).alloc _).trans (FrS.of_below hb)).alloc _
  have C1 : Hid (Cur (w1.alloc (.cells #[.int .i64 n, .int .i64 n, .slice (some ⟨g, 0, none⟩) N N] 26)) cb) := ((C0.out.alloc _).grown (grown_of_below hb none) (by simp)).alloc _
  have I1 := Lib.hid (hi.old (.cells #[.int .i64 n, .int .i64 n, .slice (some ⟨g, 0, none⟩) N N] 26))
  have gl := hi.lt
  have s1 : w.heap.size < w1.heap.size := by omega
  clear hN hi hb C0
  go_upto_region 2 with fail
  generalize w1.alloc (.cells #[.int .i64 n, .int .i64 n, .slice (some ⟨g, 0, none⟩) N N] 26) = W at K4 K5 F1 C1 I1 ⊢
  obtain ⟨ob, hob⟩ : ∃ ob, w1.heap.size = ob := ⟨_, rfl⟩
  rw [hob] at K5 gl s1 ⊢
  clear hob
  go_wp2_with fail
  refine (l1Below _ cb 6 C1.out (by omega)).mono ?_
  rintro e w2 ⟨q, ⟨q0, q1⟩, rfl, hc2, hg2⟩
  have K4 := Lib.hid (K4.out.keepOne hg2 (by omega))
  have K5 := Lib.hid (K5.out.keepOne hg2 (by omega))
  have I2 := Lib.hid (I1.out.move (hg2.block g I1.out.lt (by simp; omega)))
  have F2 := Lib.hid (F1.out.trans (FrS.of_one hg2 (.inl rfl)))
  have C2 := Lib.hid hc2
  clear hc2 hg2 C1 F1 I1
  obtain ⟨q, rfl⟩ := Int.eq_ofNat_of_zero_le q0
  go_wp2_with fail
  go_loopw [7, 8, 9] (fun v7 _ _ wr => ∃ (q : Nat) (zs : List Int), v7 = .int .i64 q ∧ q ≤ 6 ∧ zs.length = N ∧ IntsC wr g N zs ∧ Cur wr cb ∧ FrS (fun k => k = cb ∨ k = g) w2 wr) (fun v7 _ _ _ => (intOf v7).toNat)
  case atStart => exact ⟨q, idL n n, rfl, by omega, HL.out, I2.out, C2.out, FrS.refl _ _⟩
  case round =>
    obtain ⟨q, zs, rfl, hq, hz, hi, hcu, hf⟩ := hrel
    have HZ := Lib.hid hz
    have I := Lib.hid hi
    have CU := Lib.hid hcu
    have FG := Lib.hid hf
    have lk4 := K4.out.lt
    have lk5 := K5.out.lt
    have lw2 := F2.out.size
    have K5r := Lib.hid (K5.out.frs FG.out (by omega))
    clear hz hi hcu hf
    by_cases hgo : 0 < q ∧ 1 < n
    · obtain ⟨q, rfl⟩ : ∃ p, q = p + 1 := ⟨q - 1, by omega⟩
      have n1 : decide ((0 : Int) < ((q + 1 : Nat) : Int)) = true := decide_eq_true (by omega)
      have vq : IntKind.i64.wrap (((q + 1 : Nat) : Int) - 1) = ((q + 1 : Nat) : Int) - 1 := IntWalk.i64_in _ (by omega)
      have n2 : decide ((1 : Int) < (n : Int)) = true := by simp; omega
      go_wp2_with fail
      refine (l1Below _ cb n CU.out (by omega)).mono ?_
      rintro e w3 ⟨i, ⟨i0, i1⟩, rfl, hc3, hg3⟩
      obtain ⟨i, rfl⟩ := Int.eq_ofNat_of_zero_le i0
      have K5r := Lib.hid (K5r.out.keepOne hg3 (by omega))
      have I := Lib.hid (I.out.move (hg3.block g I.out.lt (by simp; omega)))
      have FG := Lib.hid (FG.out.trans (FrS.of_one hg3 (.inl rfl)))
      have CU := Lib.hid hc3
      clear hc3 hg3
      go_wp2_with fail
      refine (l1Below _ cb 3 CU.out (by omega)).mono ?_
      rintro e w4 ⟨kd, ⟨k0, k1⟩, rfl, hc3, hg3⟩
      have K5r := Lib.hid (K5r.out.keepOne hg3 (by omega))
      have I := Lib.hid (I.out.move (hg3.block g I.out.lt (by simp; omega)))
      have FG := Lib.hid (FG.out.trans (FrS.of_one hg3 (.inl rfl)))
      have CU := Lib.hid hc3
      have v1 : IntKind.i64.wrap ((n : Int) - 1) = (n : Int) - 1 := IntWalk.i64_in _ (by omega)
      have v2 : IntKind.i64.wrap ((i : Int) + 1) = (i : Int) + 1 := IntWalk.i64_in _ (by omega)
      clear hc3 hg3
      go_wp2_with fail
      refine (l1Below _ cb _ CU.out (by omega)).mono ?_
      rintro e w5 ⟨r, ⟨r0, r1⟩, rfl, hc3, hg3⟩
      obtain ⟨r, rfl⟩ := Int.eq_ofNat_of_zero_le r0
      have K5r := Lib.hid (K5r.out.keepOne hg3 (by omega))
      have I := Lib.hid (I.out.move (hg3.block g I.out.lt (by simp; omega)))
      have FG := Lib.hid (FG.out.trans (FrS.of_one hg3 (.inl rfl)))
      have CU := Lib.hid hc3
      obtain ⟨j, hj⟩ : ∃ j, (i + 1 + r) % n = j := ⟨_, rfl⟩
      have jn : j < n := by rw [← hj]; exact Nat.mod_lt _ (by omega)
      have ij : i ≠ j := by
        rcases Nat.lt_or_ge (i + 1 + r) n with h | h
        · rw [Nat.mod_eq_of_lt h] at hj; omega
        · rw [Nat.mod_eq_sub_mod h, Nat.mod_eq_of_lt (by omega)] at hj; omega
      have v3 : IntKind.i64.wrap ((i : Int) + 1 + (r : Int)) = (i : Int) + 1 + (r : Int) := IntWalk.i64_in _ (by omega)
      have v4 : Int.tmod ((i : Int) + 1 + (r : Int)) (n : Int) = (j : Int) := by
        have e : (i : Int) + 1 + (r : Int) = ((i + 1 + r : Nat) : Int) := by omega
        rw [Int.tmod_eq_emod_of_nonneg (by omega), e, ← Int.natCast_emod, hj]
      have v5 : IntKind.i64.wrap (j : Int) = (j : Int) := IntWalk.i64_in _ (by omega)
      have nz : ((n : Int) == 0) = false := by simp; omega
      have nz0 : (n : Int) ≠ 0 := by omega
      clear hc3 hg3 hj
      have lx0 := FG.out.size
      have X9 : Hid (Blk4 (w5.alloc (.cells #[.int .i64 kd, .int .i64 i, .int .i64 j, .int .i64 0] 97)) w5.heap.size 97 (.int .i64 kd) (.int .i64 i) (.int .i64 j) (.int .i64 0)) := Blk4.at_ _ _ _ _ _ rfl
      have K5r := Lib.hid (K5r.out.old (.cells #[.int .i64 kd, .int .i64 i, .int .i64 j, .int .i64 0] 97))
      have FG := Lib.hid (FG.out.alloc (.cells #[.int .i64 kd, .int .i64 i, .int .i64 j, .int .i64 0] 97))
      have lcu := CU.out.lt
      have lgi := I.out.lt
      have I := Lib.hid (I.out.old (.cells #[.int .i64 kd, .int .i64 i, .int .i64 j, .int .i64 0] 97))
      have CU := Lib.hid (CU.out.alloc (.cells #[.int .i64 kd, .int .i64 i, .int .i64 j, .int .i64 0] 97))
      have lx := FG.out.size
      go_upto_region 7 with fail
      obtain ⟨xb, hxb⟩ : ∃ xb, w5.heap.size = xb := ⟨_, rfl⟩
      generalize w5.alloc (.cells #[.int .i64 kd, .int .i64 i, .int .i64 j, .int .i64 0] 97) = U at X9 K5r FG I CU ⊢
      rw [hxb] at X9 lx0 lcu lgi ⊢
      clear hxb
      obtain ⟨y0, y1, y2, -, -, -⟩ := K5r.out.all
      rcases (show kd = 0 ∨ kd = 1 ∨ kd = 2 by omega) with rfl | rfl | rfl
      · obtain ⟨x0, x1, x2, x3⟩ := X9.out.all
        go_wp2_with fail
        refine (sDoC n n i j g N N 0 0 zs _ I.out HZ.out HN.out.symm (by omega) (by omega) (by omega) (by omega) (.inl rfl) (fun _ => ij)).mono ?_
        rintro e w6 ⟨rfl, hi6, hg6⟩
        have I6 := Lib.hid hi6
        have F6 := Lib.hid (FG.out.trans (FrS.of_one hg6 (.inr rfl)))
        have C6 := Lib.hid (CU.out.frs (FrS.of_one (p := fun k => k = g) hg6 rfl) (fun k hk => by omega))
        clear hi6 hg6
        go_wp2_with fail
        go_roundw
        case rel => exact ⟨q, opL 0 i j 0 n zs, by go_num, by omega, by rw [opL_length]; exact HZ.out, I6.out, C6.out, F6.out⟩
        case measure => simp [intOf] <;> omega
      · obtain ⟨x0, x1, x2, x3⟩ := X9.out.all
        have f2 := X9.out.free 2
        go_upto_region 9 with fail
        clear x0 x1 x2 x3 y0 y1 y2
        have X9 := Lib.hid (X9.out.setJ (.int .i64 i))
        have K5r := Lib.hid (K5r.out.far (a := ⟨xb, 2, none⟩) (by show ob ≠ xb; omega) (.int .i64 i))
        have I := Lib.hid (I.out.far (a := ⟨xb, 2, none⟩) (by show g ≠ xb; omega) (.int .i64 i))
        have CU := Lib.hid (CU.out.setFar (x := ⟨xb, 2, none⟩) (by show cb < xb; omega) (.int .i64 i))
        have FG := Lib.hid (FG.out.set (a := ⟨xb, 2, none⟩) (.inr lx0) (.int .i64 i))
        obtain ⟨x0, x1, x2, x3⟩ := X9.out.all
        obtain ⟨y0, y1, y2, -, -, -⟩ := K5r.out.all
        go_wp2_with fail
        refine (sDoC n n i i g N N 1 0 zs _ I.out HZ.out HN.out.symm (by omega) (by omega) (by omega) (by omega) (.inr (.inl rfl)) (fun h => absurd h (by decide))).mono ?_
        rintro e w6 ⟨rfl, hi6, hg6⟩
        have I6 := Lib.hid hi6
        have F6 := Lib.hid (FG.out.trans (FrS.of_one hg6 (.inr rfl)))
        have C6 := Lib.hid (CU.out.frs (FrS.of_one (p := fun k => k = g) hg6 rfl) (fun k hk => by omega))
        clear hi6 hg6
        go_wp2_with fail
        go_roundw
        case rel => exact ⟨q, opL 1 i i 0 n zs, by go_num, by omega, by rw [opL_length]; exact HZ.out, I6.out, C6.out, F6.out⟩
        case measure => simp [intOf] <;> omega
      · obtain ⟨x0, x1, x2, x3⟩ := X9.out.all
        go_wp2_with fail
        refine (l1Below _ cb 5 CU.out (by omega)).mono ?_
        rintro e w7 ⟨s, ⟨s0, s1⟩, rfl, hc3, hg3⟩
        have X9 := Lib.hid (X9.out.frs (FrS.of_one (p := fun k => k = cb) hg3 rfl) (by show ¬ xb = cb; omega))
        have K5r := Lib.hid (K5r.out.keepOne hg3 (by omega))
        have I := Lib.hid (I.out.move (hg3.block g I.out.lt (by simp; omega)))
        have FG := Lib.hid (FG.out.trans (FrS.of_one hg3 (.inl rfl)))
        have CU := Lib.hid hc3
        have vs : IntKind.i64.wrap (s - 2) = s - 2 := IntWalk.i64_in _ (by omega)
        have f3 := X9.out.free 3
        clear hc3 hg3 x0 x1 x2 x3 y0 y1 y2
        obtain ⟨x0, x1, x2, x3⟩ := X9.out.all
        go_upto_region 11 with fail
        clear x0 x1 x2 x3
        have X9 := Lib.hid (X9.out.setT (.int .i64 (s - 2)))
        have K5r := Lib.hid (K5r.out.far (a := ⟨xb, 3, none⟩) (by show ob ≠ xb; omega) (.int .i64 (s - 2)))
        have I := Lib.hid (I.out.far (a := ⟨xb, 3, none⟩) (by show g ≠ xb; omega) (.int .i64 (s - 2)))
        have CU := Lib.hid (CU.out.setFar (x := ⟨xb, 3, none⟩) (by show cb < xb; omega) (.int .i64 (s - 2)))
        have FG := Lib.hid (FG.out.set (a := ⟨xb, 3, none⟩) (.inr lx0) (.int .i64 (s - 2)))
        obtain ⟨x0, x1, x2, x3⟩ := X9.out.all
        obtain ⟨y0, y1, y2, -, -, -⟩ := K5r.out.all
        go_wp2_with fail
        refine (sDoC n n i j g N N 2 (s - 2) zs _ I.out HZ.out HN.out.symm (by omega) (by omega) (by omega) (by omega) (.inr (.inr rfl)) (fun h => absurd h (by decide))).mono ?_
        rintro e w6 ⟨rfl, hi6, hg6⟩
        have I6 := Lib.hid hi6
        have F6 := Lib.hid (FG.out.trans (FrS.of_one hg6 (.inr rfl)))
        have C6 := Lib.hid (CU.out.frs (FrS.of_one (p := fun k => k = g) hg6 rfl) (fun k hk => by omega))
        clear hi6 hg6
        go_wp2_with fail
        go_roundw
        case rel => exact ⟨q, opL 2 i j (s - 2) n zs, by go_num, by omega, by rw [opL_length]; exact HZ.out, I6.out, C6.out, F6.out⟩
        case measure => simp [intOf] <;> omega
    · have K4 := Lib.hid (K4.out.frs FG.out (by omega))
      have FT := Lib.hid (F2.out.trans (FG.out.mono2 (q := fun k => k = cb ∨ w.heap.size ≤ k) (fun k _ hk => by omega)))
      obtain ⟨y0, y1, y2, -, -, -⟩ := K5r.out.all
      obtain ⟨z0, z1, z2, f0, f1, f2⟩ := K4.out.all
      have FIN : Hid (UniMat n cb w (.returned (.agg #[.int .i64 n, .int .i64 n, .slice (some ⟨g, 0, none⟩) N N])) (((wr.setCell ⟨w.heap.size, 0, none⟩ (.int .i64 n)).setCell ⟨w.heap.size, 1, none⟩ (.int .i64 n)).setCell ⟨w.heap.size, 2, none⟩ (.slice (some ⟨g, 0, none⟩) N N))) := by
        refine ⟨g, zs, by rw [HN.out], by omega, by rw [HN.out]; exact HZ.out, ?_, ?_, FT.out.set3 (.inr (Nat.le_refl _)) _ _ _⟩
        · rw [HN.out]
          exact ((I.out.far (by show g ≠ w.heap.size; omega) _).far (by show g ≠ w.heap.size; omega) _).far (by show g ≠ w.heap.size; omega) _
        · exact ((CU.out.setFar (by show cb < w.heap.size; omega) _).setFar (by show cb < w.heap.size; omega) _).setFar (by show cb < w.heap.size; omega) _
      obtain ⟨E0, E1, E2, -, -, -⟩ := (((K4.out.set0 (.int .i64 n)).set1 (.int .i64 n)).set2 (.slice (some ⟨g, 0, none⟩) N N)).all
      rcases Nat.eq_zero_or_pos q with hq0 | hq0
      · have n1 : decide ((0 : Int) < (q : Int)) = false := by simp; omega
        go_wp2_with fail
        exact bodyPost_ret (v := .agg #[.int .i64 n, .int .i64 n, .slice (some ⟨g, 0, none⟩) N N]) (by simp [results, Try.results145, go_sem, E0, E1, E2]) rfl FIN.out
      · have n1 : decide ((0 : Int) < (q : Int)) = true := by simp; omega
        have n2 : decide ((1 : Int) < (n : Int)) = false := by simp; omega
        go_wp2_with fail
        exact bodyPost_ret (v := .agg #[.int .i64 n, .int .i64 n, .slice (some ⟨g, 0, none⟩) N N]) (by simp [results, Try.results145, go_sem, E0, E1, E2]) rfl FIN.out
end Go.Proofs.Ytpelnfenfeoeeaa
end

section
/-
  Chapter 12, in the model: HermiteForm.
-/
namespace Go.Proofs.Ytpelnfenfeoeeaa
set_option maxRecDepth 100000
open Go.RowKit

/-- What HermiteForm hands back. -/
structure HR where
  ok : Bool
  r1 : Int
  c1 : Int
  zs : List Int
  r2 : Int
  c2 : Int
  us : List Int
def HR.no : HR := ⟨false, 0, 0, [], 0, 0, []⟩
def HR.of (r c : Int) : Option HSt → HR
  | some s => ⟨true, r, c, s.1, r, r, s.2⟩
  | none => HR.no
def herR (r c : Int) (xs : List Int) : HR := if isMat r c xs = true then HR.of r c (herX r.toNat c.toNat xs) else HR.no
def HerG (w : World) (R : HR) (e : Ending) (w' : World) : Prop :=
  ∃ (va vb : Value), e = .returned (.tuple #[.agg #[.int .i64 R.r1, .int .i64 R.c1, va], .agg #[.int .i64 R.r2, .int .i64 R.c2, vb], .bool R.ok]) ∧ Own w.heap.size w' va R.zs ∧ Own w.heap.size w' vb R.us ∧ (∀ k, va.ownBlock = some k → vb.ownBlock ≠ some k) ∧ Below w.heap.size w w'
/-- The two boxes that are handed back, in every later world. -/
theorem hxF {W w' : World} {b g : Nat} {t t2 : TypeId} {p q r s1 s2 s3 : Value} (h0 : Blk3 W b t p q r) (h1 : Blk3 W g t2 s1 s2 s3) (hb : Below W.heap.size W w') :
    w'.cell? ⟨b, 0, none⟩ = some p ∧ w'.cell? ⟨b, 1, none⟩ = some q ∧ w'.cell? ⟨b, 2, none⟩ = some r ∧ w'.cell? ⟨g, 0, none⟩ = some s1 ∧ w'.cell? ⟨g, 1, none⟩ = some s2 ∧ w'.cell? ⟨g, 2, none⟩ = some s3 := by
  obtain ⟨a1, a2, a3, -, -, -⟩ := (h0.keep hb h0.lt).all
  obtain ⟨b1, b2, b3, -, -, -⟩ := (h1.keep hb h1.lt).all
  exact ⟨a1, a2, a3, b1, b2, b3⟩
set_option maxHeartbeats 4000000 in
theorem sHerm (r c : Int) (a : Option Addr) (m : Nat) (xs : List Int) (w : World) (h : Rd w a xs) (hn : xs.length ≤ 16777216) (ha : Spot a) :
    Calls Try.prog 36 #[.agg #[.int .i64 r, .int .i64 c, .slice a xs.length m]] w (HerG w (herR r c xs)) := by
  have IM : Hid (∀ w', Below w.heap.size w w' → Calls Try.prog 53 #[.agg #[.int .i64 r, .int .i64 c, .slice a xs.length m]] w' (Gives (.bool (isMat r c xs)) w')) := fun w' hb => sIsMat r c a m xs w' (h.below hb) hn
  cases hm : isMat r c xs with
  | false =>
    have RN : Hid (herR r c xs = HR.no) := by show _ = _; unfold herR; rw [if_neg (by rw [hm]; decide)]
    rw [hm] at IM
    generalize herR r c xs = RES at RN ⊢
    generalize xs.length = L at IM ⊢
    clear h hn ha hm
    go_enter Try.func36, Try.ntmps36
    go_upto_region 1 with fail
    have K0 : Hid (Blk3 (((w.alloc (.cells #[.int .i64 r, .int .i64 c, .slice a L m] 26)).alloc (.cells #[.int .i64 0, .int .i64 0, .slice none 0 0] 26)).alloc (.cells #[.int .i64 0, .int .i64 0, .slice none 0 0] 26)) w.heap.size 26 (.int .i64 r) (.int .i64 c) (.slice a L m)) := ((Blk3.at_ _ _ _ _ rfl).old _).old _
    have R0 : Hid (Blk3 (((w.alloc (.cells #[.int .i64 r, .int .i64 c, .slice a L m] 26)).alloc (.cells #[.int .i64 0, .int .i64 0, .slice none 0 0] 26)).alloc (.cells #[.int .i64 0, .int .i64 0, .slice none 0 0] 26)) (w.heap.size + 1) 26 (.int .i64 0) (.int .i64 0) (.slice none 0 0)) := (Blk3.at_ _ _ _ _ (by simp)).old _
    have Q0 : Hid (Blk3 (((w.alloc (.cells #[.int .i64 r, .int .i64 c, .slice a L m] 26)).alloc (.cells #[.int .i64 0, .int .i64 0, .slice none 0 0] 26)).alloc (.cells #[.int .i64 0, .int .i64 0, .slice none 0 0] 26)) (w.heap.size + 2) 26 (.int .i64 0) (.int .i64 0) (.slice none 0 0)) := Blk3.at_ _ _ _ _ (by simp)
    have B0 : Hid (Below w.heap.size w (((w.alloc (.cells #[.int .i64 r, .int .i64 c, .slice a L m] 26)).alloc (.cells #[.int .i64 0, .int .i64 0, .slice none 0 0] 26)).alloc (.cells #[.int .i64 0, .int .i64 0, .slice none 0 0] 26))) := (((Below.refl _ _).alloc (Nat.le_refl _) _).alloc (by simp) _).alloc (by simp; omega) _
    have S0 : Hid ((((w.alloc (.cells #[.int .i64 r, .int .i64 c, .slice a L m] 26)).alloc (.cells #[.int .i64 0, .int .i64 0, .slice none 0 0] 26)).alloc (.cells #[.int .i64 0, .int .i64 0, .slice none 0 0] 26)).heap.size = w.heap.size + 3) := by show _ = _; simp
    generalize ((w.alloc (.cells #[.int .i64 r, .int .i64 c, .slice a L m] 26)).alloc (.cells #[.int .i64 0, .int .i64 0, .slice none 0 0] 26)).alloc (.cells #[.int .i64 0, .int .i64 0, .slice none 0 0] 26) = W0 at K0 R0 Q0 B0 S0 ⊢
    obtain ⟨p0, p1, p2, -, -, -⟩ := K0.out.all
    go_wp2_with fail
    refine (IM.out _ B0.out).mono ?_
    rintro e w1 ⟨rfl, hb⟩
    have R1 := Lib.hid (R0.out.step hb)
    have R2 := Lib.hid (Q0.out.step hb)
    have B1 := Lib.hid (B0.out.trans (hb.mono (by have := S0.out; omega)))
    clear hb p0 p1 p2 K0 R0 Q0 B0
    obtain ⟨r0, r1, r2, f0, f1, f2⟩ := R1.out.all
    obtain ⟨e0, e1, e2, l0, l1, l2⟩ := R2.out.all
    go_wp2_with fail
    obtain ⟨E0, E1, E2, -, -, -⟩ := ((((((R1.out.set0 (.int .i64 0)).set1 (.int .i64 0)).set2 (.slice none 0 0)).far (a := ⟨w.heap.size + 2, 0, none⟩) (by show _ ≠ _; simp) (.int .i64 0)).far (a := ⟨w.heap.size + 2, 1, none⟩) (by show _ ≠ _; simp) (.int .i64 0)).far (a := ⟨w.heap.size + 2, 2, none⟩) (by show _ ≠ _; simp) (.slice none 0 0)).all
    obtain ⟨E3, E4, E5, -, -, -⟩ := ((((((R2.out.far (a := ⟨w.heap.size + 1, 0, none⟩) (by show _ ≠ _; simp) (.int .i64 0)).far (a := ⟨w.heap.size + 1, 1, none⟩) (by show _ ≠ _; simp) (.int .i64 0)).far (a := ⟨w.heap.size + 1, 2, none⟩) (by show _ ≠ _; simp) (.slice none 0 0)).set0 (.int .i64 0)).set1 (.int .i64 0)).set2 (.slice none 0 0)).all
    refine bodyPost_ret (v := .tuple #[.agg #[.int .i64 0, .int .i64 0, .slice none 0 0], .agg #[.int .i64 0, .int .i64 0, .slice none 0 0], .bool false]) (by simp [results, Try.results36, go_sem, E0, E1, E2, E3, E4, E5]) rfl ?_
    rw [RN.out]
    refine ⟨_, _, rfl, .inl ⟨rfl, rfl⟩, .inl ⟨rfl, rfl⟩, fun k hk => by simp [Value.ownBlock] at hk, ?_⟩
    exact (((((B1.out.setCell (by show w.heap.size ≤ w.heap.size + 1; omega) _).setCell (by show w.heap.size ≤ w.heap.size + 1; omega) _).setCell (by show w.heap.size ≤ w.heap.size + 1; omega) _).setCell (by show w.heap.size ≤ w.heap.size + 2; omega) _).setCell (by show w.heap.size ≤ w.heap.size + 2; omega) _).setCell (by show w.heap.size ≤ w.heap.size + 2; omega) _
  | true =>
    obtain ⟨⟨r0, r1⟩, ⟨c0, c1⟩, hl, nx⟩ := isMat_says hm
    obtain ⟨R, rfl⟩ := Int.eq_ofNat_of_zero_le r0
    obtain ⟨C, rfl⟩ := Int.eq_ofNat_of_zero_le c0
    have hl : xs.length = R * C := by rw [← Int.natCast_mul] at hl; omega
    have R24 : R ≤ 24 := by omega
    have C24 : C ≤ 24 := by omega
    have hbd : R * C ≤ 24 * 24 := Nat.mul_le_mul R24 C24
    have hbu : R * R ≤ 24 * 24 := Nat.mul_le_mul R24 R24
    have RS : Hid (herR R C xs = HR.of R C (herX R C xs)) := by show _ = _; unfold herR; rw [if_pos hm]; rfl
    have SZ : Hid (∀ s, herX R C xs = some s → Siz R C s) := fun s hs => (herX_says hl nx hs).1.siz
    have CP : Hid (∀ w', Below w.heap.size w w' → Calls Try.prog 54 #[.agg #[.int .i64 R, .int .i64 C, .slice a xs.length m]] w' (fun e w2 => ∃ g cap : Nat, e = .returned (.agg #[.int .i64 R, .int .i64 C, .slice (some ⟨g, 0, none⟩) xs.length cap]) ∧ w'.heap.size ≤ g ∧ IntsC w2 g cap xs ∧ Below w'.heap.size w' w2)) := fun w' hb => sCopyA R C a m xs.length xs w' (h.below hb) ha rfl (by omega)
    have HE : Hid (∀ (ga gu ca cu : Nat) w', Ints w' ga xs → Ints w' gu (idL R R) → ga ≠ gu → Calls Try.prog 88 #[.agg #[.int .i64 R, .int .i64 C, .slice (some ⟨ga, 0, none⟩) xs.length ca], .agg #[.int .i64 R, .int .i64 R, .slice (some ⟨gu, 0, none⟩) (R * R) cu]] w' (HerRes ga gu (herX R C xs) w')) := fun ga gu ca cu w' h1 h2 h3 => sHer R C ga gu xs.length (R * R) ca cu xs w' h1 h2 h3 rfl hl rfl R24 C24 nx
    have ID : Hid (∀ w', Calls Try.prog 55 #[.int .i64 R] w' (fun e w2 => ∃ g : Nat, e = .returned (.tuple #[.agg #[.int .i64 R, .int .i64 R, .slice (some ⟨g, 0, none⟩) (R * R) (R * R)], .bool true]) ∧ w'.heap.size ≤ g ∧ IntsC w2 g (R * R) (idL R R) ∧ Below w'.heap.size w' w2)) := fun w' => sIdentC R w' R24
    rw [hm] at IM
    rw [RS.out]
    generalize herX R C xs = X at SZ HE ⊢
    have HL := Lib.hid hl
    obtain ⟨L, hL⟩ : ∃ L, xs.length = L := ⟨_, rfl⟩
    rw [hL] at IM CP HE HL ⊢
    obtain ⟨LU, hLU⟩ : ∃ LU, R * R = LU := ⟨_, rfl⟩
    rw [hLU] at HE ID
    have HLU := Lib.hid hLU
    have XL := Lib.hid hL
    clear h hn ha hm r0 r1 c0 c1 hl nx RS hL hLU
    go_enter Try.func36, Try.ntmps36
    go_upto_region 1 with fail
    have K0 : Hid (Blk3 (((w.alloc (.cells #[.int .i64 R, .int .i64 C, .slice a L m] 26)).alloc (.cells #[.int .i64 0, .int .i64 0, .slice none 0 0] 26)).alloc (.cells #[.int .i64 0, .int .i64 0, .slice none 0 0] 26)) w.heap.size 26 (.int .i64 R) (.int .i64 C) (.slice a L m)) := ((Blk3.at_ _ _ _ _ rfl).old _).old _
    have R0 : Hid (Blk3 (((w.alloc (.cells #[.int .i64 R, .int .i64 C, .slice a L m] 26)).alloc (.cells #[.int .i64 0, .int .i64 0, .slice none 0 0] 26)).alloc (.cells #[.int .i64 0, .int .i64 0, .slice none 0 0] 26)) (w.heap.size + 1) 26 (.int .i64 0) (.int .i64 0) (.slice none 0 0)) := (Blk3.at_ _ _ _ _ (by simp)).old _
    have Q0 : Hid (Blk3 (((w.alloc (.cells #[.int .i64 R, .int .i64 C, .slice a L m] 26)).alloc (.cells #[.int .i64 0, .int .i64 0, .slice none 0 0] 26)).alloc (.cells #[.int .i64 0, .int .i64 0, .slice none 0 0] 26)) (w.heap.size + 2) 26 (.int .i64 0) (.int .i64 0) (.slice none 0 0)) := Blk3.at_ _ _ _ _ (by simp)
    have B0 : Hid (Below w.heap.size w (((w.alloc (.cells #[.int .i64 R, .int .i64 C, .slice a L m] 26)).alloc (.cells #[.int .i64 0, .int .i64 0, .slice none 0 0] 26)).alloc (.cells #[.int .i64 0, .int .i64 0, .slice none 0 0] 26))) := (((Below.refl _ _).alloc (Nat.le_refl _) _).alloc (by simp) _).alloc (by simp; omega) _
    have S0 : Hid ((((w.alloc (.cells #[.int .i64 R, .int .i64 C, .slice a L m] 26)).alloc (.cells #[.int .i64 0, .int .i64 0, .slice none 0 0] 26)).alloc (.cells #[.int .i64 0, .int .i64 0, .slice none 0 0] 26)).heap.size = w.heap.size + 3) := by show _ = _; simp
    generalize ((w.alloc (.cells #[.int .i64 R, .int .i64 C, .slice a L m] 26)).alloc (.cells #[.int .i64 0, .int .i64 0, .slice none 0 0] 26)).alloc (.cells #[.int .i64 0, .int .i64 0, .slice none 0 0] 26) = W0 at K0 R0 Q0 B0 S0 ⊢
    obtain ⟨p0, p1, p2, -, -, -⟩ := K0.out.all
    go_wp2_with fail
    refine (IM.out _ B0.out).mono ?_
    rintro e w1 ⟨rfl, hb⟩
    have K1 := Lib.hid (K0.out.step hb)
    have R1 := Lib.hid (R0.out.step hb)
    have Q1 := Lib.hid (Q0.out.step hb)
    have B1 := Lib.hid (B0.out.trans (hb.mono (by have := S0.out; omega)))
    have s1 : w.heap.size + 3 ≤ w1.heap.size := by have := S0.out; have := hb.size; omega
    clear hb p0 p1 p2 K0 R0 Q0 B0 S0
    obtain ⟨p0, p1, p2, -, -, -⟩ := K1.out.all
    go_wp2_with fail
    refine (CP.out _ B1.out).mono ?_
    rintro e w2 ⟨ga, ca, rfl, hga, hia, hb⟩
    have la := hia.ints.lt
    have K2 := Lib.hid ((K1.out.step hb).old (.cells #[.int .i64 R, .int .i64 C, .slice (some ⟨ga, 0, none⟩) L ca] 26))
    have R2 := Lib.hid ((R1.out.step hb).old (.cells #[.int .i64 R, .int .i64 C, .slice (some ⟨ga, 0, none⟩) L ca] 26))
    have Q2 := Lib.hid ((Q1.out.step hb).old (.cells #[.int .i64 R, .int .i64 C, .slice (some ⟨ga, 0, none⟩) L ca] 26))
    have A2 : Hid (Blk3 (w2.alloc (.cells #[.int .i64 R, .int .i64 C, .slice (some ⟨ga, 0, none⟩) L ca] 26)) w2.heap.size 26 (.int .i64 R) (.int .i64 C) (.slice (some ⟨ga, 0, none⟩) L ca)) := Blk3.at_ _ _ _ _ rfl
    have I2 := Lib.hid (IntsC.move hia (Below.heap_alloc w2 (.cells #[.int .i64 R, .int .i64 C, .slice (some ⟨ga, 0, none⟩) L ca] 26) ga la))
    have B2 := Lib.hid ((B1.out.trans (hb.mono (by omega))).alloc (by have := hb.size; omega) (.cells #[.int .i64 R, .int .i64 C, .slice (some ⟨ga, 0, none⟩) L ca] 26))
    have s2 := hb.size
    clear hb hia K1 R1 Q1 B1 p0 p1 p2 IM CP
    go_upto_region 4 with fail
    obtain ⟨b5, hb5⟩ : ∃ b, w2.heap.size = b := ⟨_, rfl⟩
    rw [hb5] at A2 la s2 ⊢
    have s3 : Hid ((w2.alloc (.cells #[.int .i64 R, .int .i64 C, .slice (some ⟨ga, 0, none⟩) L ca] 26)).heap.size = b5 + 1) := by show _ = _; simp [hb5]
    generalize w2.alloc (.cells #[.int .i64 R, .int .i64 C, .slice (some ⟨ga, 0, none⟩) L ca] 26) = W2 at K2 R2 Q2 A2 I2 B2 s3 ⊢
    clear hb5
    obtain ⟨p0, p1, p2, -, -, -⟩ := K2.out.all
    go_wp2_with fail
    refine (ID.out _).mono ?_
    rintro e w3 ⟨gu, rfl, hgu, hiu, hb⟩
    have lu := hiu.ints.lt
    have R3 := Lib.hid ((R2.out.step hb).old (.cells #[.int .i64 R, .int .i64 R, .slice (some ⟨gu, 0, none⟩) LU LU] 26))
    have Q3 := Lib.hid ((Q2.out.step hb).old (.cells #[.int .i64 R, .int .i64 R, .slice (some ⟨gu, 0, none⟩) LU LU] 26))
    have A3 := Lib.hid ((A2.out.step hb).old (.cells #[.int .i64 R, .int .i64 R, .slice (some ⟨gu, 0, none⟩) LU LU] 26))
    have U3 : Hid (Blk3 (w3.alloc (.cells #[.int .i64 R, .int .i64 R, .slice (some ⟨gu, 0, none⟩) LU LU] 26)) w3.heap.size 26 (.int .i64 R) (.int .i64 R) (.slice (some ⟨gu, 0, none⟩) LU LU)) := Blk3.at_ _ _ _ _ rfl
    have I3 := Lib.hid ((IntsC.move I2.out (hb.block ga (by have := s3.out; omega))).move (Below.heap_alloc w3 (.cells #[.int .i64 R, .int .i64 R, .slice (some ⟨gu, 0, none⟩) LU LU] 26) ga (by have := s3.out; have := hb.size; omega)))
    have J3 := Lib.hid (IntsC.move hiu (Below.heap_alloc w3 (.cells #[.int .i64 R, .int .i64 R, .slice (some ⟨gu, 0, none⟩) LU LU] 26) gu lu))
    have B3 := Lib.hid ((B2.out.trans (hb.mono B2.out.size)).alloc (by have := hb.size; have := B2.out.size; omega) (.cells #[.int .i64 R, .int .i64 R, .slice (some ⟨gu, 0, none⟩) LU LU] 26))
    have s4 := hb.size
    have n1 : Hid (w.heap.size + 1 < ga) := by show _ < _; omega
    have n2 : Hid (w.heap.size + 2 < ga) := by show _ < _; omega
    have n3 : Hid (ga < b5) := la
    have n4 : Hid (b5 < gu) := by show _ < _; have := s3.out; omega
    clear hb hiu K2 R2 Q2 A2 I2 B2 p0 p1 p2 ID
    go_upto_region 5 with fail
    obtain ⟨b6, hb6⟩ : ∃ b, w3.heap.size = b := ⟨_, rfl⟩
    rw [hb6] at U3 lu ⊢
    have n5 : Hid (gu < b6) := lu
    generalize w3.alloc (.cells #[.int .i64 R, .int .i64 R, .slice (some ⟨gu, 0, none⟩) LU LU] 26) = W3 at R3 Q3 A3 U3 I3 J3 B3 ⊢
    clear hb6 s1 s2 s3 s4 la lu hga hgu
    obtain ⟨p0, p1, p2, -, -, -⟩ := A3.out.all
    obtain ⟨u0, u1, u2, -, -, -⟩ := U3.out.all
    go_wp2_with fail
    refine (HE.out ga gu ca LU _ I3.out.ints J3.out.ints (by have := n3.out; have := n4.out; omega)).mono ?_
    rintro e w4 ⟨rfl, hf, hs⟩
    have nA : ∀ b, b < ga → ¬ (b = ga ∨ b = gu) := fun b hb => by have := n3.out; have := n4.out; omega
    have R4 := Lib.hid (R3.out.frs hf (nA _ n1.out))
    have Q4 := Lib.hid (Q3.out.frs hf (nA _ n2.out))
    have A4 := Lib.hid (A3.out.frs hf (by have := n3.out; have := n4.out; omega))
    have U4 := Lib.hid (U3.out.frs hf (by have := n3.out; have := n4.out; have := n5.out; omega))
    have B4 := Lib.hid (B3.out.trans (hf.below (B := w.heap.size) (fun k hk => by have := n2.out; have := n3.out; have := n4.out; omega) B3.out.size))
    have HS := Lib.hid hs
    have cA := I3.out
    have cU := J3.out
    obtain ⟨cA1, rA, cA2, -⟩ := cA
    obtain ⟨cU1, rU, cU2, -⟩ := cU
    rw [XL.out] at cA2
    have lA : L ≤ ca := by omega
    clear hf hs p0 p1 p2 u0 u1 u2 R3 Q3 A3 U3 I3 J3 B3 nA HE cA1 rA cA2 cU1 rU cU2
    obtain ⟨r0, r1, r2, f0, f1, f2⟩ := R4.out.all
    obtain ⟨e0, e1, e2, l0, l1, l2⟩ := Q4.out.all
    cases X with
    | none =>
      dsimp only [Option.isSome]
      go_wp2_with fail
      obtain ⟨E0, E1, E2, -, -, -⟩ := ((((((R4.out.set0 (.int .i64 0)).set1 (.int .i64 0)).set2 (.slice none 0 0)).far (a := ⟨w.heap.size + 2, 0, none⟩) (by show _ ≠ _; simp) (.int .i64 0)).far (a := ⟨w.heap.size + 2, 1, none⟩) (by show _ ≠ _; simp) (.int .i64 0)).far (a := ⟨w.heap.size + 2, 2, none⟩) (by show _ ≠ _; simp) (.slice none 0 0)).all
      obtain ⟨E3, E4, E5, -, -, -⟩ := ((((((Q4.out.far (a := ⟨w.heap.size + 1, 0, none⟩) (by show _ ≠ _; simp) (.int .i64 0)).far (a := ⟨w.heap.size + 1, 1, none⟩) (by show _ ≠ _; simp) (.int .i64 0)).far (a := ⟨w.heap.size + 1, 2, none⟩) (by show _ ≠ _; simp) (.slice none 0 0)).set0 (.int .i64 0)).set1 (.int .i64 0)).set2 (.slice none 0 0)).all
      refine bodyPost_ret (v := .tuple #[.agg #[.int .i64 0, .int .i64 0, .slice none 0 0], .agg #[.int .i64 0, .int .i64 0, .slice none 0 0], .bool false]) (by simp [results, Try.results36, go_sem, E0, E1, E2, E3, E4, E5]) rfl ?_
      refine ⟨_, _, rfl, .inl ⟨rfl, rfl⟩, .inl ⟨rfl, rfl⟩, fun k hk => by simp [Value.ownBlock] at hk, ?_⟩
      exact (((((B4.out.setCell (by show w.heap.size ≤ w.heap.size + 1; omega) _).setCell (by show w.heap.size ≤ w.heap.size + 1; omega) _).setCell (by show w.heap.size ≤ w.heap.size + 1; omega) _).setCell (by show w.heap.size ≤ w.heap.size + 2; omega) _).setCell (by show w.heap.size ≤ w.heap.size + 2; omega) _).setCell (by show w.heap.size ≤ w.heap.size + 2; omega) _
    | some s =>
      obtain ⟨i1, i2⟩ := HS.out s rfl
      have IA := Lib.hid i1
      have IU := Lib.hid i2
      have SI := Lib.hid (SZ.out s rfl)
      clear i1 i2 HS SZ r0 r1 r2 f0 f1 f2 e0 e1 e2 l0 l1 l2
      dsimp only [Option.isSome]
      go_wp2_with fail
      refine wp_region_T (S := fun w' => Blk3 w' b5 26 (.int .i64 R) (.int .i64 C) (.slice (some ⟨ga, 0, none⟩) L ca) ∧ Blk3 w' b6 26 (.int .i64 R) (.int .i64 R) (.slice (some ⟨gu, 0, none⟩) LU LU)) (T := fun _ => false) (by kernel_rfl) ⟨A4.out.drew, U4.out.drew⟩ (fun hH => ?_)
      have R5 := Lib.hid R4.out.drew
      have Q5 := Lib.hid Q4.out.drew
      have B5 := Lib.hid B4.out.drew
      have IA5 := Lib.hid (Ints.move IA.out (rfl : w4.drew.heap[ga]? = w4.heap[ga]?))
      have IU5 := Lib.hid (Ints.move IU.out (rfl : w4.drew.heap[gu]? = w4.heap[gu]?))
      generalize w4.drew = v0 at hH R5 Q5 B5 IA5 IU5 ⊢
      clear R4 Q4 B4 IA IU A4 U4
      refine wpAnyT_take (i := 0) (v := ?_) (by simp only [List.getElem?_toArray, List.getElem?_cons_zero]; rfl) (by kernel_rfl) (by kernel_rfl) (by kernel_rfl) (by kernel_rfl) (fun _ hj => by cases hj) (by exact fun _ _ _ h => h) (Or.inl ⟨by rfl, ?_⟩) hH ?_
      rotate_left
      · (intro wS hS; (try dsimp only at hS); obtain ⟨k1, k2, k3, -, -, -⟩ := hS.1.all; go_simp; try rfl)
      try simp only [Act.put, List.setIfInBounds_toArray, List.set_cons_zero, List.set_cons_succ]
      refine wpAnyT_ready (rs := [1, 2]) (by kernel_rfl) (by simp) ?_
      refine AllReadyT.cons (by simp only [List.getElem?_toArray, List.getElem?_cons_succ, List.getElem?_cons_zero]; rfl) (fun K hK => ?_) (AllReadyT.cons (by simp only [List.getElem?_toArray, List.getElem?_cons_succ, List.getElem?_cons_zero]; rfl) (fun K hK => ?_) AllReadyT.nil)
      ·
        obtain ⟨k1, k2, k3, -, -, -⟩ := hH.2.all
        go_simp
        try dsimp only
        refine hK.out _ _ (fun _ => hH) ?_
        clear hK K k1 k2 k3
        try simp only [Act.put, List.setIfInBounds_toArray, List.set_cons_zero, List.set_cons_succ]
        refine wpAnyT_ready (rs := [2]) (by kernel_rfl) (by simp) ?_
        refine AllReadyT.cons (by simp only [List.getElem?_toArray, List.getElem?_cons_succ, List.getElem?_cons_zero]; rfl) (fun K hK => ?_) AllReadyT.nil
        obtain ⟨r0, r1, r2, f0, f1, f2⟩ := R5.out.all
        go_simp
        try dsimp only
        have hN := And.intro (((hH.1.far (a := ⟨w.heap.size + 1, 0, none⟩) (by show b5 ≠ w.heap.size + 1; have := n1.out; have := n2.out; have := n3.out; omega) (.int .i64 R)).far (a := ⟨w.heap.size + 1, 1, none⟩) (by show b5 ≠ w.heap.size + 1; have := n1.out; have := n2.out; have := n3.out; omega) (.int .i64 C)).far (a := ⟨w.heap.size + 1, 2, none⟩) (by show b5 ≠ w.heap.size + 1; have := n1.out; have := n2.out; have := n3.out; omega) (.slice (some ⟨ga, 0, none⟩) L ca)) (((hH.2.far (a := ⟨w.heap.size + 1, 0, none⟩) (by show b6 ≠ w.heap.size + 1; have := n1.out; have := n2.out; have := n3.out; have := n4.out; have := n5.out; omega) (.int .i64 R)).far (a := ⟨w.heap.size + 1, 1, none⟩) (by show b6 ≠ w.heap.size + 1; have := n1.out; have := n2.out; have := n3.out; have := n4.out; have := n5.out; omega) (.int .i64 C)).far (a := ⟨w.heap.size + 1, 2, none⟩) (by show b6 ≠ w.heap.size + 1; have := n1.out; have := n2.out; have := n3.out; have := n4.out; have := n5.out; omega) (.slice (some ⟨ga, 0, none⟩) L ca))
        have R6 := Lib.hid (((R5.out.set0 (.int .i64 R)).set1 (.int .i64 C)).set2 (.slice (some ⟨ga, 0, none⟩) L ca))
        have Q6 := Lib.hid (((Q5.out.far (a := ⟨w.heap.size + 1, 0, none⟩) (by show w.heap.size + 2 ≠ w.heap.size + 1; omega) (.int .i64 R)).far (a := ⟨w.heap.size + 1, 1, none⟩) (by show w.heap.size + 2 ≠ w.heap.size + 1; omega) (.int .i64 C)).far (a := ⟨w.heap.size + 1, 2, none⟩) (by show w.heap.size + 2 ≠ w.heap.size + 1; omega) (.slice (some ⟨ga, 0, none⟩) L ca))
        have B6 := Lib.hid (((B5.out.setCell (p := ⟨w.heap.size + 1, 0, none⟩) (by show w.heap.size ≤ w.heap.size + 1; omega) (.int .i64 R)).setCell (p := ⟨w.heap.size + 1, 1, none⟩) (by show w.heap.size ≤ w.heap.size + 1; omega) (.int .i64 C)).setCell (p := ⟨w.heap.size + 1, 2, none⟩) (by show w.heap.size ≤ w.heap.size + 1; omega) (.slice (some ⟨ga, 0, none⟩) L ca))
        have IA6 := Lib.hid (((IA5.out.far (a := ⟨w.heap.size + 1, 0, none⟩) (by show ga ≠ w.heap.size + 1; have := n1.out; have := n2.out; omega) (.int .i64 R)).far (a := ⟨w.heap.size + 1, 1, none⟩) (by show ga ≠ w.heap.size + 1; have := n1.out; have := n2.out; omega) (.int .i64 C)).far (a := ⟨w.heap.size + 1, 2, none⟩) (by show ga ≠ w.heap.size + 1; have := n1.out; have := n2.out; omega) (.slice (some ⟨ga, 0, none⟩) L ca))
        have IU6 := Lib.hid (((IU5.out.far (a := ⟨w.heap.size + 1, 0, none⟩) (by show gu ≠ w.heap.size + 1; have := n1.out; have := n2.out; have := n3.out; have := n4.out; omega) (.int .i64 R)).far (a := ⟨w.heap.size + 1, 1, none⟩) (by show gu ≠ w.heap.size + 1; have := n1.out; have := n2.out; have := n3.out; have := n4.out; omega) (.int .i64 C)).far (a := ⟨w.heap.size + 1, 2, none⟩) (by show gu ≠ w.heap.size + 1; have := n1.out; have := n2.out; have := n3.out; have := n4.out; omega) (.slice (some ⟨ga, 0, none⟩) L ca))
        refine hK.out _ _ (fun _ => hN) ?_
        clear hK K r0 r1 r2 f0 f1 f2 hH R5 Q5 B5 IA5 IU5
        try simp only [Act.put, List.setIfInBounds_toArray, List.set_cons_zero, List.set_cons_succ]
        try simp only [show w.heap.size + 1 + 1 = w.heap.size + 2 from rfl]
        generalize (((v0.setCell ⟨w.heap.size + 1, 0, none⟩ (.int .i64 R)).setCell ⟨w.heap.size + 1, 1, none⟩ (.int .i64 C)).setCell ⟨w.heap.size + 1, 2, none⟩ (.slice (some ⟨ga, 0, none⟩) L ca)) = v0 at hN R6 Q6 B6 IA6 IU6 ⊢
        have hH := hN
        have R5 := R6
        have Q5 := Q6
        have B5 := B6
        have IA5 := IA6
        have IU5 := IU6
        clear hN R6 Q6 B6 IA6 IU6
        refine wpAnyT_ready (rs := [3]) (by kernel_rfl) (by simp) ?_
        refine AllReadyT.cons (by simp only [List.getElem?_toArray, List.getElem?_cons_succ, List.getElem?_cons_zero]; rfl) (fun K hK => ?_) AllReadyT.nil
        obtain ⟨r0, r1, r2, f0, f1, f2⟩ := Q5.out.all
        go_simp
        try dsimp only
        have hN := And.intro (((hH.1.far (a := ⟨w.heap.size + 2, 0, none⟩) (by show b5 ≠ w.heap.size + 2; have := n1.out; have := n2.out; have := n3.out; omega) (.int .i64 R)).far (a := ⟨w.heap.size + 2, 1, none⟩) (by show b5 ≠ w.heap.size + 2; have := n1.out; have := n2.out; have := n3.out; omega) (.int .i64 R)).far (a := ⟨w.heap.size + 2, 2, none⟩) (by show b5 ≠ w.heap.size + 2; have := n1.out; have := n2.out; have := n3.out; omega) (.slice (some ⟨gu, 0, none⟩) LU LU)) (((hH.2.far (a := ⟨w.heap.size + 2, 0, none⟩) (by show b6 ≠ w.heap.size + 2; have := n1.out; have := n2.out; have := n3.out; have := n4.out; have := n5.out; omega) (.int .i64 R)).far (a := ⟨w.heap.size + 2, 1, none⟩) (by show b6 ≠ w.heap.size + 2; have := n1.out; have := n2.out; have := n3.out; have := n4.out; have := n5.out; omega) (.int .i64 R)).far (a := ⟨w.heap.size + 2, 2, none⟩) (by show b6 ≠ w.heap.size + 2; have := n1.out; have := n2.out; have := n3.out; have := n4.out; have := n5.out; omega) (.slice (some ⟨gu, 0, none⟩) LU LU))
        have R6 := Lib.hid (((R5.out.far (a := ⟨w.heap.size + 2, 0, none⟩) (by show w.heap.size + 1 ≠ w.heap.size + 2; omega) (.int .i64 R)).far (a := ⟨w.heap.size + 2, 1, none⟩) (by show w.heap.size + 1 ≠ w.heap.size + 2; omega) (.int .i64 R)).far (a := ⟨w.heap.size + 2, 2, none⟩) (by show w.heap.size + 1 ≠ w.heap.size + 2; omega) (.slice (some ⟨gu, 0, none⟩) LU LU))
        have Q6 := Lib.hid (((Q5.out.set0 (.int .i64 R)).set1 (.int .i64 R)).set2 (.slice (some ⟨gu, 0, none⟩) LU LU))
        have B6 := Lib.hid (((B5.out.setCell (p := ⟨w.heap.size + 2, 0, none⟩) (by show w.heap.size ≤ w.heap.size + 2; omega) (.int .i64 R)).setCell (p := ⟨w.heap.size + 2, 1, none⟩) (by show w.heap.size ≤ w.heap.size + 2; omega) (.int .i64 R)).setCell (p := ⟨w.heap.size + 2, 2, none⟩) (by show w.heap.size ≤ w.heap.size + 2; omega) (.slice (some ⟨gu, 0, none⟩) LU LU))
        have IA6 := Lib.hid (((IA5.out.far (a := ⟨w.heap.size + 2, 0, none⟩) (by show ga ≠ w.heap.size + 2; have := n1.out; have := n2.out; omega) (.int .i64 R)).far (a := ⟨w.heap.size + 2, 1, none⟩) (by show ga ≠ w.heap.size + 2; have := n1.out; have := n2.out; omega) (.int .i64 R)).far (a := ⟨w.heap.size + 2, 2, none⟩) (by show ga ≠ w.heap.size + 2; have := n1.out; have := n2.out; omega) (.slice (some ⟨gu, 0, none⟩) LU LU))
        have IU6 := Lib.hid (((IU5.out.far (a := ⟨w.heap.size + 2, 0, none⟩) (by show gu ≠ w.heap.size + 2; have := n1.out; have := n2.out; have := n3.out; have := n4.out; omega) (.int .i64 R)).far (a := ⟨w.heap.size + 2, 1, none⟩) (by show gu ≠ w.heap.size + 2; have := n1.out; have := n2.out; have := n3.out; have := n4.out; omega) (.int .i64 R)).far (a := ⟨w.heap.size + 2, 2, none⟩) (by show gu ≠ w.heap.size + 2; have := n1.out; have := n2.out; have := n3.out; have := n4.out; omega) (.slice (some ⟨gu, 0, none⟩) LU LU))
        refine hK.out _ _ (fun _ => hN) ?_
        clear hK K r0 r1 r2 f0 f1 f2 hH R5 Q5 B5 IA5 IU5
        try simp only [Act.put, List.setIfInBounds_toArray, List.set_cons_zero, List.set_cons_succ]
        try simp only [show w.heap.size + 1 + 1 = w.heap.size + 2 from rfl]
        generalize (((v0.setCell ⟨w.heap.size + 2, 0, none⟩ (.int .i64 R)).setCell ⟨w.heap.size + 2, 1, none⟩ (.int .i64 R)).setCell ⟨w.heap.size + 2, 2, none⟩ (.slice (some ⟨gu, 0, none⟩) LU LU)) = v0 at hN R6 Q6 B6 IA6 IU6 ⊢
        have hH := hN
        have R5 := R6
        have Q5 := Q6
        have B5 := B6
        have IA5 := IA6
        have IU5 := IU6
        clear hN R6 Q6 B6 IA6 IU6
        refine wpAnyT_ready (rs := [4]) (by kernel_rfl) (by simp) ?_
        refine AllReadyT.cons (by simp only [List.getElem?_toArray, List.getElem?_cons_succ, List.getElem?_cons_zero]; rfl) (fun K hK => ?_) AllReadyT.nil
        go_simp
        try dsimp only
        refine hK.out _ _ (fun _ => hH) ?_
        clear hK K
        try simp only [Act.put, List.setIfInBounds_toArray, List.set_cons_zero, List.set_cons_succ]
        refine wpAnyT_done (by kernel_rfl) ?_ _
        go_wp2_with fail
        obtain ⟨E0, E1, E2, -, -, -⟩ := R5.out.all
        obtain ⟨E3, E4, E5, -, -, -⟩ := Q5.out.all
        have e1 : s.1.length = L := by rw [SI.out.l1, HL.out]
        have e2 : s.2.length = LU := by rw [SI.out.l2, HLU.out]
        refine bodyPost_ret (v := .tuple #[.agg #[.int .i64 R, .int .i64 C, .slice (some ⟨ga, 0, none⟩) L ca], .agg #[.int .i64 R, .int .i64 R, .slice (some ⟨gu, 0, none⟩) LU LU], .bool true]) (by simp [results, Try.results36, go_sem, E0, E1, E2, E3, E4, E5]) rfl ?_
        refine ⟨.slice (some ⟨ga, 0, none⟩) L ca, .slice (some ⟨gu, 0, none⟩) LU LU, rfl, .inr ⟨ga, ca, by rw [← e1]; rfl, by have := n2.out; omega, IA5.out, by show s.1.length ≤ ca; omega, by show s.1.length ≤ 16777216; have := HL.out; omega⟩, .inr ⟨gu, LU, by rw [← e2]; rfl, by have := n2.out; have := n3.out; have := n4.out; omega, IU5.out, by show s.2.length ≤ LU; omega, by show s.2.length ≤ 16777216; have := HLU.out; omega⟩, fun k hk => ?_, B5.out⟩
        have hk : some ga = some k := hk
        intro h9
        have h9 : some gu = some k := h9
        have hk := Option.some.inj hk
        have h9 := Option.some.inj h9
        have := n3.out
        have := n4.out
        omega
      ·
        obtain ⟨r0, r1, r2, f0, f1, f2⟩ := R5.out.all
        go_simp
        try dsimp only
        have hN := And.intro (((hH.1.far (a := ⟨w.heap.size + 1, 0, none⟩) (by show b5 ≠ w.heap.size + 1; have := n1.out; have := n2.out; have := n3.out; omega) (.int .i64 R)).far (a := ⟨w.heap.size + 1, 1, none⟩) (by show b5 ≠ w.heap.size + 1; have := n1.out; have := n2.out; have := n3.out; omega) (.int .i64 C)).far (a := ⟨w.heap.size + 1, 2, none⟩) (by show b5 ≠ w.heap.size + 1; have := n1.out; have := n2.out; have := n3.out; omega) (.slice (some ⟨ga, 0, none⟩) L ca)) (((hH.2.far (a := ⟨w.heap.size + 1, 0, none⟩) (by show b6 ≠ w.heap.size + 1; have := n1.out; have := n2.out; have := n3.out; have := n4.out; have := n5.out; omega) (.int .i64 R)).far (a := ⟨w.heap.size + 1, 1, none⟩) (by show b6 ≠ w.heap.size + 1; have := n1.out; have := n2.out; have := n3.out; have := n4.out; have := n5.out; omega) (.int .i64 C)).far (a := ⟨w.heap.size + 1, 2, none⟩) (by show b6 ≠ w.heap.size + 1; have := n1.out; have := n2.out; have := n3.out; have := n4.out; have := n5.out; omega) (.slice (some ⟨ga, 0, none⟩) L ca))
        have R6 := Lib.hid (((R5.out.set0 (.int .i64 R)).set1 (.int .i64 C)).set2 (.slice (some ⟨ga, 0, none⟩) L ca))
        have Q6 := Lib.hid (((Q5.out.far (a := ⟨w.heap.size + 1, 0, none⟩) (by show w.heap.size + 2 ≠ w.heap.size + 1; omega) (.int .i64 R)).far (a := ⟨w.heap.size + 1, 1, none⟩) (by show w.heap.size + 2 ≠ w.heap.size + 1; omega) (.int .i64 C)).far (a := ⟨w.heap.size + 1, 2, none⟩) (by show w.heap.size + 2 ≠ w.heap.size + 1; omega) (.slice (some ⟨ga, 0, none⟩) L ca))
        have B6 := Lib.hid (((B5.out.setCell (p := ⟨w.heap.size + 1, 0, none⟩) (by show w.heap.size ≤ w.heap.size + 1; omega) (.int .i64 R)).setCell (p := ⟨w.heap.size + 1, 1, none⟩) (by show w.heap.size ≤ w.heap.size + 1; omega) (.int .i64 C)).setCell (p := ⟨w.heap.size + 1, 2, none⟩) (by show w.heap.size ≤ w.heap.size + 1; omega) (.slice (some ⟨ga, 0, none⟩) L ca))
        have IA6 := Lib.hid (((IA5.out.far (a := ⟨w.heap.size + 1, 0, none⟩) (by show ga ≠ w.heap.size + 1; have := n1.out; have := n2.out; omega) (.int .i64 R)).far (a := ⟨w.heap.size + 1, 1, none⟩) (by show ga ≠ w.heap.size + 1; have := n1.out; have := n2.out; omega) (.int .i64 C)).far (a := ⟨w.heap.size + 1, 2, none⟩) (by show ga ≠ w.heap.size + 1; have := n1.out; have := n2.out; omega) (.slice (some ⟨ga, 0, none⟩) L ca))
        have IU6 := Lib.hid (((IU5.out.far (a := ⟨w.heap.size + 1, 0, none⟩) (by show gu ≠ w.heap.size + 1; have := n1.out; have := n2.out; have := n3.out; have := n4.out; omega) (.int .i64 R)).far (a := ⟨w.heap.size + 1, 1, none⟩) (by show gu ≠ w.heap.size + 1; have := n1.out; have := n2.out; have := n3.out; have := n4.out; omega) (.int .i64 C)).far (a := ⟨w.heap.size + 1, 2, none⟩) (by show gu ≠ w.heap.size + 1; have := n1.out; have := n2.out; have := n3.out; have := n4.out; omega) (.slice (some ⟨ga, 0, none⟩) L ca))
        refine hK.out _ _ (fun _ => hN) ?_
        clear hK K r0 r1 r2 f0 f1 f2 hH R5 Q5 B5 IA5 IU5
        try simp only [Act.put, List.setIfInBounds_toArray, List.set_cons_zero, List.set_cons_succ]
        try simp only [show w.heap.size + 1 + 1 = w.heap.size + 2 from rfl]
        generalize (((v0.setCell ⟨w.heap.size + 1, 0, none⟩ (.int .i64 R)).setCell ⟨w.heap.size + 1, 1, none⟩ (.int .i64 C)).setCell ⟨w.heap.size + 1, 2, none⟩ (.slice (some ⟨ga, 0, none⟩) L ca)) = v0 at hN R6 Q6 B6 IA6 IU6 ⊢
        have hH := hN
        have R5 := R6
        have Q5 := Q6
        have B5 := B6
        have IA5 := IA6
        have IU5 := IU6
        clear hN R6 Q6 B6 IA6 IU6
        refine wpAnyT_ready (rs := [1]) (by kernel_rfl) (by simp) ?_
        refine AllReadyT.cons (by simp only [List.getElem?_toArray, List.getElem?_cons_succ, List.getElem?_cons_zero]; rfl) (fun K hK => ?_) AllReadyT.nil
        obtain ⟨k1, k2, k3, -, -, -⟩ := hH.2.all
        go_simp
        try dsimp only
        refine hK.out _ _ (fun _ => hH) ?_
        clear hK K k1 k2 k3
        try simp only [Act.put, List.setIfInBounds_toArray, List.set_cons_zero, List.set_cons_succ]
        refine wpAnyT_ready (rs := [3]) (by kernel_rfl) (by simp) ?_
        refine AllReadyT.cons (by simp only [List.getElem?_toArray, List.getElem?_cons_succ, List.getElem?_cons_zero]; rfl) (fun K hK => ?_) AllReadyT.nil
        obtain ⟨r0, r1, r2, f0, f1, f2⟩ := Q5.out.all
        go_simp
        try dsimp only
        have hN := And.intro (((hH.1.far (a := ⟨w.heap.size + 2, 0, none⟩) (by show b5 ≠ w.heap.size + 2; have := n1.out; have := n2.out; have := n3.out; omega) (.int .i64 R)).far (a := ⟨w.heap.size + 2, 1, none⟩) (by show b5 ≠ w.heap.size + 2; have := n1.out; have := n2.out; have := n3.out; omega) (.int .i64 R)).far (a := ⟨w.heap.size + 2, 2, none⟩) (by show b5 ≠ w.heap.size + 2; have := n1.out; have := n2.out; have := n3.out; omega) (.slice (some ⟨gu, 0, none⟩) LU LU)) (((hH.2.far (a := ⟨w.heap.size + 2, 0, none⟩) (by show b6 ≠ w.heap.size + 2; have := n1.out; have := n2.out; have := n3.out; have := n4.out; have := n5.out; omega) (.int .i64 R)).far (a := ⟨w.heap.size + 2, 1, none⟩) (by show b6 ≠ w.heap.size + 2; have := n1.out; have := n2.out; have := n3.out; have := n4.out; have := n5.out; omega) (.int .i64 R)).far (a := ⟨w.heap.size + 2, 2, none⟩) (by show b6 ≠ w.heap.size + 2; have := n1.out; have := n2.out; have := n3.out; have := n4.out; have := n5.out; omega) (.slice (some ⟨gu, 0, none⟩) LU LU))
        have R6 := Lib.hid (((R5.out.far (a := ⟨w.heap.size + 2, 0, none⟩) (by show w.heap.size + 1 ≠ w.heap.size + 2; omega) (.int .i64 R)).far (a := ⟨w.heap.size + 2, 1, none⟩) (by show w.heap.size + 1 ≠ w.heap.size + 2; omega) (.int .i64 R)).far (a := ⟨w.heap.size + 2, 2, none⟩) (by show w.heap.size + 1 ≠ w.heap.size + 2; omega) (.slice (some ⟨gu, 0, none⟩) LU LU))
        have Q6 := Lib.hid (((Q5.out.set0 (.int .i64 R)).set1 (.int .i64 R)).set2 (.slice (some ⟨gu, 0, none⟩) LU LU))
        have B6 := Lib.hid (((B5.out.setCell (p := ⟨w.heap.size + 2, 0, none⟩) (by show w.heap.size ≤ w.heap.size + 2; omega) (.int .i64 R)).setCell (p := ⟨w.heap.size + 2, 1, none⟩) (by show w.heap.size ≤ w.heap.size + 2; omega) (.int .i64 R)).setCell (p := ⟨w.heap.size + 2, 2, none⟩) (by show w.heap.size ≤ w.heap.size + 2; omega) (.slice (some ⟨gu, 0, none⟩) LU LU))
        have IA6 := Lib.hid (((IA5.out.far (a := ⟨w.heap.size + 2, 0, none⟩) (by show ga ≠ w.heap.size + 2; have := n1.out; have := n2.out; omega) (.int .i64 R)).far (a := ⟨w.heap.size + 2, 1, none⟩) (by show ga ≠ w.heap.size + 2; have := n1.out; have := n2.out; omega) (.int .i64 R)).far (a := ⟨w.heap.size + 2, 2, none⟩) (by show ga ≠ w.heap.size + 2; have := n1.out; have := n2.out; omega) (.slice (some ⟨gu, 0, none⟩) LU LU))
        have IU6 := Lib.hid (((IU5.out.far (a := ⟨w.heap.size + 2, 0, none⟩) (by show gu ≠ w.heap.size + 2; have := n1.out; have := n2.out; have := n3.out; have := n4.out; omega) (.int .i64 R)).far (a := ⟨w.heap.size + 2, 1, none⟩) (by show gu ≠ w.heap.size + 2; have := n1.out; have := n2.out; have := n3.out; have := n4.out; omega) (.int .i64 R)).far (a := ⟨w.heap.size + 2, 2, none⟩) (by show gu ≠ w.heap.size + 2; have := n1.out; have := n2.out; have := n3.out; have := n4.out; omega) (.slice (some ⟨gu, 0, none⟩) LU LU))
        refine hK.out _ _ (fun _ => hN) ?_
        clear hK K r0 r1 r2 f0 f1 f2 hH R5 Q5 B5 IA5 IU5
        try simp only [Act.put, List.setIfInBounds_toArray, List.set_cons_zero, List.set_cons_succ]
        try simp only [show w.heap.size + 1 + 1 = w.heap.size + 2 from rfl]
        generalize (((v0.setCell ⟨w.heap.size + 2, 0, none⟩ (.int .i64 R)).setCell ⟨w.heap.size + 2, 1, none⟩ (.int .i64 R)).setCell ⟨w.heap.size + 2, 2, none⟩ (.slice (some ⟨gu, 0, none⟩) LU LU)) = v0 at hN R6 Q6 B6 IA6 IU6 ⊢
        have hH := hN
        have R5 := R6
        have Q5 := Q6
        have B5 := B6
        have IA5 := IA6
        have IU5 := IU6
        clear hN R6 Q6 B6 IA6 IU6
        refine wpAnyT_ready (rs := [4]) (by kernel_rfl) (by simp) ?_
        refine AllReadyT.cons (by simp only [List.getElem?_toArray, List.getElem?_cons_succ, List.getElem?_cons_zero]; rfl) (fun K hK => ?_) AllReadyT.nil
        go_simp
        try dsimp only
        refine hK.out _ _ (fun _ => hH) ?_
        clear hK K
        try simp only [Act.put, List.setIfInBounds_toArray, List.set_cons_zero, List.set_cons_succ]
        refine wpAnyT_done (by kernel_rfl) ?_ _
        go_wp2_with fail
        obtain ⟨E0, E1, E2, -, -, -⟩ := R5.out.all
        obtain ⟨E3, E4, E5, -, -, -⟩ := Q5.out.all
        have e1 : s.1.length = L := by rw [SI.out.l1, HL.out]
        have e2 : s.2.length = LU := by rw [SI.out.l2, HLU.out]
        refine bodyPost_ret (v := .tuple #[.agg #[.int .i64 R, .int .i64 C, .slice (some ⟨ga, 0, none⟩) L ca], .agg #[.int .i64 R, .int .i64 R, .slice (some ⟨gu, 0, none⟩) LU LU], .bool true]) (by simp [results, Try.results36, go_sem, E0, E1, E2, E3, E4, E5]) rfl ?_
        refine ⟨.slice (some ⟨ga, 0, none⟩) L ca, .slice (some ⟨gu, 0, none⟩) LU LU, rfl, .inr ⟨ga, ca, by rw [← e1]; rfl, by have := n2.out; omega, IA5.out, by show s.1.length ≤ ca; omega, by show s.1.length ≤ 16777216; have := HL.out; omega⟩, .inr ⟨gu, LU, by rw [← e2]; rfl, by have := n2.out; have := n3.out; have := n4.out; omega, IU5.out, by show s.2.length ≤ LU; omega, by show s.2.length ≤ 16777216; have := HLU.out; omega⟩, fun k hk => ?_, B5.out⟩
        have hk : some ga = some k := hk
        intro h9
        have h9 : some gu = some k := h9
        have hk := Option.some.inj hk
        have h9 := Option.some.inj h9
        have := n3.out
        have := n4.out
        omega
end Go.Proofs.Ytpelnfenfeoeeaa
end

section
/-
  What a call has built by append, whatever it is of.
-/
namespace Go.Proofs.Ytpelnfenfeoeeaa
open Go.RowKit

theorem ownB_ge2 {w : World} {base n k : Nat} {e : TypeId} {size : Nat} {v : Value} {xs : List Value} (h : w.ownsRow base e size v n xs) (hk : v.ownBlock = some k) : base ≤ k := (h.lt k hk).1
theorem rows_far {w : World} {base n : Nat} {e : TypeId} {size : Nat} {v : Value} {xs : List Value} (h : w.ownsRow base e size v n xs) {a : Addr} (ha : a.block < base) (u : Value) : (w.setCell a u).ownsRow base e size v n xs := by
  obtain ⟨h1, ⟨h2, h3⟩ | ⟨g, cap, cur, e, hB, hg, rest⟩⟩ := h
  · exact ⟨h1, .inl ⟨h2, h3⟩⟩
  · exact ⟨h1, .inr ⟨g, cap, cur, e, hB, (Below.heap_setCell w a u g (by omega)).trans hg, rest⟩⟩
theorem rows_keep {w w' : World} {base n : Nat} {e : TypeId} {size : Nat} {v : Value} {xs : List Value} (h : w.ownsRow base e size v n xs) (hb : Below w.heap.size w w') : w'.ownsRow base e size v n xs := by
  obtain ⟨h1, ⟨h2, h3⟩ | ⟨g, cap, cur, e, hB, hg, rest⟩⟩ := h
  · exact ⟨h1, .inl ⟨h2, h3⟩⟩
  · exact ⟨h1, .inr ⟨g, cap, cur, e, hB, (hb.block g (lt_of_block hg)).trans hg, rest⟩⟩
theorem rows_form {w : World} {base n : Nat} {e : TypeId} {size : Nat} {v : Value} {xs : List Value} (h : w.ownsRow base e size v n xs) : ∃ a m c, v = .slice a m c := by
  obtain ⟨h1, ⟨h2, h3⟩ | ⟨g, cap, cur, e, hB, hg, rest⟩⟩ := h
  · exact ⟨_, _, _, h2⟩
  · exact ⟨_, _, _, e⟩
end Go.Proofs.Ytpelnfenfeoeeaa
end

section
/-
  Chapter 5, in the program: the kinds of operations.
-/
namespace Go.Proofs.Ytpelnfenfeoeeaa
open Go.RowKit

abbrev aggO (k i j t : Int) : Value := .agg #[.int .i64 k, .int .i64 i, .int .i64 j, .int .i64 t]
theorem below1 (w : World) (o : Obj) : Below w.heap.size w (w.alloc o) := (Below.refl _ _).alloc (Nat.le_refl _) o
theorem iOpOf0 (i j t : Int) (w : World) : Calls Try.prog 167 #[aggO 0 i j t] w (Gives (.iface 146 (aggO 0 i j t)) w) := by
  go_enter Try.func167, Try.ntmps167
  go_wp2_with fail
  go_ret
  exact ⟨rfl, below1 _ _⟩
theorem iOpOf1 (i j t : Int) (w : World) : Calls Try.prog 167 #[aggO 1 i j t] w (Gives (.iface 147 (aggO 1 i j t)) w) := by
  go_enter Try.func167, Try.ntmps167
  go_wp2_with fail
  go_ret
  exact ⟨rfl, below1 _ _⟩
theorem iOpOf2 (i j t : Int) (w : World) : Calls Try.prog 167 #[aggO 2 i j t] w (Gives (.iface 148 (aggO 2 i j t)) w) := by
  go_enter Try.func167, Try.ntmps167
  go_wp2_with fail
  go_ret
  exact ⟨rfl, below1 _ _⟩
theorem iOpOfN (k i j t : Int) (w : World) (h : k < 0 ∨ 2 < k) : Calls Try.prog 167 #[aggO k i j t] w (Gives .nilIface w) := by
  have f0 : (k == 0) = false := by simp; omega
  have f1 : (k == 1) = false := by simp; omega
  have f2 : (k == 2) = false := by simp; omega
  clear h
  go_enter Try.func167, Try.ntmps167
  go_wp2_with fail
  go_ret
  exact ⟨rfl, below1 _ _⟩
theorem iFit0 (i j t : Int) (w : World) : Calls Try.prog 185 #[aggO 0 i j t] w (Gives (.bool (decide (j ≠ i ∧ t = 0))) w) := by
  by_cases e1 : j = i
  · subst e1
    rw [show decide (j ≠ j ∧ t = 0) = false by simp]
    go_enter Try.func185, Try.ntmps185
    go_wp2_with fail
    go_ret
    exact ⟨rfl, below1 _ _⟩
  · have g1 : (i != j) = true := by simp; omega
    have g2 : (i == j) = false := by simp; omega
    by_cases e2 : t = 0
    · subst e2
      rw [show decide (j ≠ i ∧ (0 : Int) = 0) = true by simp [e1]]
      clear e1
      go_enter Try.func185, Try.ntmps185
      go_wp2_with fail
      go_ret
      exact ⟨rfl, below1 _ _⟩
    · have g3 : (t == 0) = false := by simp; omega
      rw [show decide (j ≠ i ∧ t = 0) = false by simp [e2]]
      clear e1 e2
      go_enter Try.func185, Try.ntmps185
      go_wp2_with fail
      go_ret
      exact ⟨rfl, below1 _ _⟩
theorem iFit1 (i j t : Int) (w : World) : Calls Try.prog 187 #[aggO 1 i j t] w (Gives (.bool (decide (j = i ∧ t = 0))) w) := by
  by_cases e1 : j = i
  · subst e1
    by_cases e2 : t = 0
    · subst e2
      rw [show decide (j = j ∧ (0 : Int) = 0) = true by simp]
      go_enter Try.func187, Try.ntmps187
      go_wp2_with fail
      go_ret
      exact ⟨rfl, below1 _ _⟩
    · have g3 : (t == 0) = false := by simp; omega
      rw [show decide (j = j ∧ t = 0) = false by simp [e2]]
      clear e2
      go_enter Try.func187, Try.ntmps187
      go_wp2_with fail
      go_ret
      exact ⟨rfl, below1 _ _⟩
  · have g1 : (i != j) = true := by simp; omega
    have g2 : (i == j) = false := by simp; omega
    rw [show decide (j = i ∧ t = 0) = false by simp [e1]]
    clear e1
    go_enter Try.func187, Try.ntmps187
    go_wp2_with fail
    go_ret
    exact ⟨rfl, below1 _ _⟩
theorem iFit2 (i j t : Int) (w : World) : Calls Try.prog 189 #[aggO 2 i j t] w (Gives (.bool (decide (j ≠ i))) w) := by
  by_cases e1 : j = i
  · subst e1
    rw [show decide (j ≠ j) = false by simp]
    go_enter Try.func189, Try.ntmps189
    go_wp2_with fail
    go_ret
    exact ⟨rfl, below1 _ _⟩
  · have g1 : (i != j) = true := by simp; omega
    have g2 : (i == j) = false := by simp; omega
    rw [show decide (j ≠ i) = true by simp [e1]]
    clear e1
    go_enter Try.func189, Try.ntmps189
    go_wp2_with fail
    go_ret
    exact ⟨rfl, below1 _ _⟩
theorem iDo0 (x y i j t : Int) (w : World) : Calls Try.prog 184 #[aggO 0 i j t, .int .i64 x, .int .i64 y] w (Gives (.tuple #[.int .i64 y, .int .i64 x, .bool true]) w) := by
  go_enter Try.func184, Try.ntmps184
  go_wp2_with fail
  exact bodyPost_ret (v := .tuple #[.int .i64 y, .int .i64 x, .bool true]) (by simp [results, Try.results184, go_sem]) rfl ⟨rfl, below1 _ _⟩
theorem iDo1 (x y i j t : Int) (w : World) (hx : NumP x) : Calls Try.prog 186 #[aggO 1 i j t, .int .i64 x, .int .i64 y] w (Gives (.tuple #[.int .i64 (-x), .int .i64 (-x), .bool true]) w) := by
  obtain ⟨x1, x2⟩ := hx
  have v : IntKind.i64.wrap (-x) = -x := IntWalk.i64_in _ (by omega)
  clear x1 x2
  go_enter Try.func186, Try.ntmps186
  go_wp2_with fail
  exact bodyPost_ret (v := .tuple #[.int .i64 (-x), .int .i64 (-x), .bool true]) (by simp [results, Try.results186, go_sem]) rfl ⟨rfl, below1 _ _⟩
theorem iDo2 (x y i j t : Int) (w : World) (hx : NumP x) (hy : NumP y) (ht : NumP t) : Calls Try.prog 188 #[aggO 2 i j t, .int .i64 x, .int .i64 y] w (Gives (.tuple #[.int .i64 (x + y * t), .int .i64 y, .bool (decide (NumP (y * t)))]) w) := by
  obtain ⟨m1, m2⟩ := mul_num y t hy ht
  obtain ⟨x1, x2⟩ := hx
  have v1 : IntKind.i64.wrap (y * t) = y * t := IntWalk.i64_in _ (by omega)
  have v2 : IntKind.i64.wrap (x + y * t) = x + y * t := IntWalk.i64_in _ (by omega)
  clear m1 m2 x1 x2 hy ht
  go_enter Try.func188, Try.ntmps188
  go_wp2_with fail
  go_quiet ((refine (iIsNum _ _).mono ?_; rintro e w' ⟨rfl, rfl⟩; exact ⟨rfl, _, rfl⟩))
  go_wp2_with fail
  exact bodyPost_ret (v := .tuple #[.int .i64 (x + y * t), .int .i64 y, .bool (decide (NumP (y * t)))]) (by simp [results, Try.results188, go_sem]) rfl ⟨rfl, below_drewN (below1 _ _) nq⟩
theorem iRow (n rows : Int) (pb : Nat) (w : World) (hc : w.cell? ⟨pb, 0, none⟩ = some (.int .i64 rows)) : Calls Try.prog 168 #[.int .i64 n, .pointer (some ⟨pb, 0, none⟩)] w fun e w' => e = .returned (.bool (decide (0 ≤ n ∧ n < rows))) ∧ w = w' := by
  by_cases h0 : 0 ≤ n
  · by_cases h1 : n < rows
    · rw [show decide (0 ≤ n ∧ n < rows) = true by simp [h0, h1]]
      go_enter Try.func168, Try.ntmps168
      go_wp2_with fail
      go_ret
      exact ⟨rfl, rfl⟩
    · rw [show decide (0 ≤ n ∧ n < rows) = false by simp [h1]]
      have h2 : decide (n < rows) = false := by simpa using h1
      go_enter Try.func168, Try.ntmps168
      go_wp2_with fail
      go_ret
      exact ⟨rfl, rfl⟩
  · rw [show decide (0 ≤ n ∧ n < rows) = false by simp [h0]]
    have h2 : decide (0 ≤ n) = false := by simpa using h0
    go_enter Try.func168, Try.ntmps168
    go_wp2_with fail
    go_ret
    exact ⟨rfl, rfl⟩
end Go.Proofs.Ytpelnfenfeoeeaa
end

section
/-
  Chapter 5, in the program: IsRowOp.
-/
namespace Go.Proofs.Ytpelnfenfeoeeaa
open Go.RowKit

theorem cell_new (w : World) (v : Value) (t : TypeId) (pb : Nat) (h : pb = w.heap.size) : (w.alloc (.cells #[v] t)).cell? ⟨pb, 0, none⟩ = some v := by
  subst h
  have e : (w.alloc (.cells #[v] t)).heap[w.heap.size]? = some (.cells #[v] t (0, 0)) := by show (w.heap.push _)[w.heap.size]? = _; rw [Array.getElem?_push, if_pos rfl]
  generalize w.alloc (.cells #[v] t) = w' at e
  simp [World.cell?, e]
theorem iRow_t (n rows : Int) (pb : Nat) (w : World) (hc : w.cell? ⟨pb, 0, none⟩ = some (.int .i64 rows)) (h : 0 ≤ n ∧ n < rows) : Calls Try.prog 168 #[.int .i64 n, .pointer (some ⟨pb, 0, none⟩)] w fun e w' => e = .returned (.bool true) ∧ w = w' := by
  have := iRow n rows pb w hc; rwa [decide_eq_true h] at this
theorem iRow_f (n rows : Int) (pb : Nat) (w : World) (hc : w.cell? ⟨pb, 0, none⟩ = some (.int .i64 rows)) (h : n < 0 ∨ rows ≤ n) : Calls Try.prog 168 #[.int .i64 n, .pointer (some ⟨pb, 0, none⟩)] w fun e w' => e = .returned (.bool false) ∧ w = w' := by
  have := iRow n rows pb w hc; rwa [decide_eq_false (by omega)] at this
theorem step2 {w a c : World} (h : Below w.heap.size w a) (hb : Below a.heap.size a c) : Below w.heap.size w c := h.trans (hb.mono h.size)
set_option maxHeartbeats 1000000 in
theorem iIsOp (k i j t rows : Int) (w : World) : Calls Try.prog 166 #[.agg #[.int .i64 k, .int .i64 i, .int .i64 j, .int .i64 t], .int .i64 rows] w (Gives (.bool (isOp k i j t rows)) w) := by
  have BH : Hid (∀ o o2, Below w.heap.size w ((w.alloc o).alloc o2)) := fun o o2 => ((Below.refl _ _).alloc (Nat.le_refl _) o).alloc (by simp) o2
  have CN : Hid (∀ o, ((w.alloc o).alloc (.cells #[.int .i64 rows] 3)).cell? ⟨w.heap.size + 1, 0, none⟩ = some (.int .i64 rows)) := fun o => cell_new _ _ _ _ (by simp)
  by_cases h2 : 0 ≤ rows ∧ rows ≤ 24
  · by_cases h3 : 0 ≤ i ∧ i < rows
    · by_cases h4 : 0 ≤ j ∧ j < rows
      · by_cases h5 : NumP t
        · have RG : Hid (rangeOp k i j t rows = (decide (0 ≤ k ∧ k ≤ 2))) := by show rangeOp k i j t rows = _; unfold rangeOp; rw [decide_eq_true h2, decide_eq_true (show 0 ≤ i ∧ i ≤ rows - 1 by omega), decide_eq_true (show 0 ≤ j ∧ j ≤ rows - 1 by omega), decide_eq_true h5]; simp only [Bool.and_true]
          by_cases k0 : k = 0
          · subst k0
            have V : Hid (isOp 0 i j t rows = decide (j ≠ i ∧ t = 0)) := by show isOp 0 i j t rows = _; unfold isOp; rw [RG.out]; rfl
            obtain ⟨b, hbb⟩ : ∃ b, decide (j ≠ i ∧ t = 0) = b := ⟨_, rfl⟩
            have FT := Lib.hid (iFit0 i j t)
            rw [hbb] at V
            have FT : Hid (∀ w, Calls Try.prog 185 #[aggO 0 i j t] w (Gives (.bool b) w)) := fun w => by rw [← hbb]; exact FT.out w
            clear hbb
            go_enter Try.func166, Try.ntmps166
            go_wp2_with fail
            refine (iSize_t rows _ h2.1 h2.2).mono ?_
            rintro e w' ⟨rfl, rfl⟩
            go_wp2_with fail
            refine (iRow_t i rows _ _ (CN.out _) h3).mono ?_
            rintro e w' ⟨rfl, rfl⟩
            go_wp2_with fail
            refine (iRow_t j rows _ _ (CN.out _) h4).mono ?_
            rintro e w' ⟨rfl, rfl⟩
            go_wp2_with fail
            refine (iIsNum_t t _ h5.1 h5.2).mono ?_
            rintro e w' ⟨rfl, rfl⟩
            go_wp2_with fail
            refine (iOpOf0 i j t _).mono ?_
            rintro e w1 ⟨rfl, hb⟩
            have B : Hid (Below w.heap.size w w1) := step2 (BH.out _ _) hb
            clear hb
            go_wp2_with fail
            refine (FT.out _).mono ?_
            rintro e w2 ⟨rfl, hb⟩
            have B2 : Hid (Below w.heap.size w w2) := step2 B.out hb
            clear hb
            go_wp2_with fail
            go_ret
            exact ⟨by rw [V.out]; rfl, B2.out⟩
          by_cases k1 : k = 1
          · subst k1
            have V : Hid (isOp 1 i j t rows = decide (j = i ∧ t = 0)) := by show isOp 1 i j t rows = _; unfold isOp; rw [RG.out]; rfl
            obtain ⟨b, hbb⟩ : ∃ b, decide (j = i ∧ t = 0) = b := ⟨_, rfl⟩
            have FT := Lib.hid (iFit1 i j t)
            rw [hbb] at V
            have FT : Hid (∀ w, Calls Try.prog 187 #[aggO 1 i j t] w (Gives (.bool b) w)) := fun w => by rw [← hbb]; exact FT.out w
            clear hbb
            go_enter Try.func166, Try.ntmps166
            go_wp2_with fail
            refine (iSize_t rows _ h2.1 h2.2).mono ?_
            rintro e w' ⟨rfl, rfl⟩
            go_wp2_with fail
            refine (iRow_t i rows _ _ (CN.out _) h3).mono ?_
            rintro e w' ⟨rfl, rfl⟩
            go_wp2_with fail
            refine (iRow_t j rows _ _ (CN.out _) h4).mono ?_
            rintro e w' ⟨rfl, rfl⟩
            go_wp2_with fail
            refine (iIsNum_t t _ h5.1 h5.2).mono ?_
            rintro e w' ⟨rfl, rfl⟩
            go_wp2_with fail
            refine (iOpOf1 i j t _).mono ?_
            rintro e w1 ⟨rfl, hb⟩
            have B : Hid (Below w.heap.size w w1) := step2 (BH.out _ _) hb
            clear hb
            go_wp2_with fail
            refine (FT.out _).mono ?_
            rintro e w2 ⟨rfl, hb⟩
            have B2 : Hid (Below w.heap.size w w2) := step2 B.out hb
            clear hb
            go_wp2_with fail
            go_ret
            exact ⟨by rw [V.out]; rfl, B2.out⟩
          by_cases k2 : k = 2
          · subst k2
            have V : Hid (isOp 2 i j t rows = decide (j ≠ i)) := by show isOp 2 i j t rows = _; unfold isOp; rw [RG.out]; rfl
            obtain ⟨b, hbb⟩ : ∃ b, decide (j ≠ i) = b := ⟨_, rfl⟩
            have FT := Lib.hid (iFit2 i j t)
            rw [hbb] at V
            have FT : Hid (∀ w, Calls Try.prog 189 #[aggO 2 i j t] w (Gives (.bool b) w)) := fun w => by rw [← hbb]; exact FT.out w
            clear hbb
            go_enter Try.func166, Try.ntmps166
            go_wp2_with fail
            refine (iSize_t rows _ h2.1 h2.2).mono ?_
            rintro e w' ⟨rfl, rfl⟩
            go_wp2_with fail
            refine (iRow_t i rows _ _ (CN.out _) h3).mono ?_
            rintro e w' ⟨rfl, rfl⟩
            go_wp2_with fail
            refine (iRow_t j rows _ _ (CN.out _) h4).mono ?_
            rintro e w' ⟨rfl, rfl⟩
            go_wp2_with fail
            refine (iIsNum_t t _ h5.1 h5.2).mono ?_
            rintro e w' ⟨rfl, rfl⟩
            go_wp2_with fail
            refine (iOpOf2 i j t _).mono ?_
            rintro e w1 ⟨rfl, hb⟩
            have B : Hid (Below w.heap.size w w1) := step2 (BH.out _ _) hb
            clear hb
            go_wp2_with fail
            refine (FT.out _).mono ?_
            rintro e w2 ⟨rfl, hb⟩
            have B2 : Hid (Below w.heap.size w w2) := step2 B.out hb
            clear hb
            go_wp2_with fail
            go_ret
            exact ⟨by rw [V.out]; rfl, B2.out⟩
          have V : Hid (isOp k i j t rows = false) := by show isOp k i j t rows = false; unfold isOp; rw [RG.out, decide_eq_false (by omega)]; rfl
          have hk : k < 0 ∨ 2 < k := by omega
          clear k0 k1 k2
          go_enter Try.func166, Try.ntmps166
          go_wp2_with fail
          refine (iSize_t rows _ h2.1 h2.2).mono ?_
          rintro e w' ⟨rfl, rfl⟩
          go_wp2_with fail
          refine (iRow_t i rows _ _ (CN.out _) h3).mono ?_
          rintro e w' ⟨rfl, rfl⟩
          go_wp2_with fail
          refine (iRow_t j rows _ _ (CN.out _) h4).mono ?_
          rintro e w' ⟨rfl, rfl⟩
          go_wp2_with fail
          refine (iIsNum_t t _ h5.1 h5.2).mono ?_
          rintro e w' ⟨rfl, rfl⟩
          go_wp2_with fail
          refine (iOpOfN k i j t _ hk).mono ?_
          rintro e w1 ⟨rfl, hb⟩
          have B : Hid (Below w.heap.size w w1) := step2 (BH.out _ _) hb
          clear hb
          go_wp2_with fail
          go_ret
          exact ⟨by rw [V.out]; rfl, B.out⟩
        · have V : Hid (isOp k i j t rows = false) := by show isOp k i j t rows = false; unfold isOp rangeOp; rw [decide_eq_false h5]; simp
          have hx : t < -400000000 ∨ 400000000 < t := by unfold NumP at h5; omega
          clear h5
          go_enter Try.func166, Try.ntmps166
          go_wp2_with fail
          refine (iSize_t rows _ h2.1 h2.2).mono ?_
          rintro e w' ⟨rfl, rfl⟩
          go_wp2_with fail
          refine (iRow_t i rows _ _ (CN.out _) h3).mono ?_
          rintro e w' ⟨rfl, rfl⟩
          go_wp2_with fail
          refine (iRow_t j rows _ _ (CN.out _) h4).mono ?_
          rintro e w' ⟨rfl, rfl⟩
          go_wp2_with fail
          refine (iIsNum_f t _ hx).mono ?_
          rintro e w' ⟨rfl, rfl⟩
          go_wp2_with fail
          go_ret
          exact ⟨by rw [V.out]; rfl, BH.out _ _⟩
      · have V : Hid (isOp k i j t rows = false) := by show isOp k i j t rows = false; unfold isOp rangeOp; rw [decide_eq_false (show ¬ (0 ≤ j ∧ j ≤ rows - 1) by omega)]; simp
        have hx : j < 0 ∨ rows ≤ j := by omega
        clear h4
        go_enter Try.func166, Try.ntmps166
        go_wp2_with fail
        refine (iSize_t rows _ h2.1 h2.2).mono ?_
        rintro e w' ⟨rfl, rfl⟩
        go_wp2_with fail
        refine (iRow_t i rows _ _ (CN.out _) h3).mono ?_
        rintro e w' ⟨rfl, rfl⟩
        go_wp2_with fail
        refine (iRow_f j rows _ _ (CN.out _) hx).mono ?_
        rintro e w' ⟨rfl, rfl⟩
        go_wp2_with fail
        go_ret
        exact ⟨by rw [V.out]; rfl, BH.out _ _⟩
    · have V : Hid (isOp k i j t rows = false) := by show isOp k i j t rows = false; unfold isOp rangeOp; rw [decide_eq_false (show ¬ (0 ≤ i ∧ i ≤ rows - 1) by omega)]; simp
      have hx : i < 0 ∨ rows ≤ i := by omega
      clear h3
      go_enter Try.func166, Try.ntmps166
      go_wp2_with fail
      refine (iSize_t rows _ h2.1 h2.2).mono ?_
      rintro e w' ⟨rfl, rfl⟩
      go_wp2_with fail
      refine (iRow_f i rows _ _ (CN.out _) hx).mono ?_
      rintro e w' ⟨rfl, rfl⟩
      go_wp2_with fail
      go_ret
      exact ⟨by rw [V.out]; rfl, BH.out _ _⟩
  · have V : Hid (isOp k i j t rows = false) := by show isOp k i j t rows = false; unfold isOp rangeOp; rw [decide_eq_false h2]; simp
    have hx : rows < 0 ∨ 24 < rows := by omega
    clear h2
    go_enter Try.func166, Try.ntmps166
    go_wp2_with fail
    refine (iSize_f rows _ hx).mono ?_
    rintro e w' ⟨rfl, rfl⟩
    go_wp2_with fail
    go_ret
    exact ⟨by rw [V.out]; rfl, BH.out _ _⟩
end Go.Proofs.Ytpelnfenfeoeeaa
end

section
/-
  A block of ints, cell by cell.
-/
namespace Go.Proofs.Ytpelnfenfeoeeaa
open Go.RowKit

theorem Rd.cells {w : World} {b o : Nat} {zs : List Int} (h : Rd w (some ⟨b, o, none⟩) zs) (j : Nat) (hj : j < zs.length) : w.cell? ⟨b, o + j, none⟩ = some (.int .i64 (zs.getD j 0)) := by
  obtain ⟨b', o', e, hc⟩ := h j hj
  injection e with e
  injection e with e1 e2
  subst e1 e2
  exact hc
theorem Rd.addr {w : World} {a : Option Addr} {zs : List Int} (h : Rd w a zs) (hz : 0 < zs.length) : ∃ b o : Nat, a = some ⟨b, o, none⟩ := by
  obtain ⟨b, o, e, -⟩ := h 0 hz
  exact ⟨b, o, e⟩
end Go.Proofs.Ytpelnfenfeoeeaa
end

section
/-
  Contracts of Go's library at this translation, each one application of a theorem of the guide's library: slices_Clone_int, slices_Clone_int_zero, slices_Clone_int_nil.
-/
namespace Go.Proofs
open Go.Shelf
def Try.laysNm215_ren : Go.Shelf.Ren := ⟨fun | 15 => 115 | n => n, fun | 22 => 22 | 3 => 3 | 4 => 4 | n => n, fun | n => n⟩
theorem Try.laysNm215 : Go.Proofs.Lays2.n15 Try.prog Try.laysNm215_ren := {
  mixed := by kernel_rfl
  f15 := Try.func115.trans (congrArg some (by kernel_rfl))
  t3 := Try.underlying3
  a3 := Try.isAgg3
  z3 := Try.sizeOf3
  v3 := Try.zeroValue3
  t4 := Try.underlying4
  a4 := Try.isAgg4
  z4 := Try.sizeOf4
  v4 := Try.zeroValue4
  t22 := Try.underlying22
  a22 := Try.isAgg22
  z22 := Try.sizeOf22
  v22 := Try.zeroValue22
  i3 := by kernel_rfl }
open Go.RowKit Go.Lib in
theorem Try.slices_Clone_int (b off n c : Nat) (zs : List Int) (w : World) (hz : n ≤ zs.length) (hbig : n * 8 ≤ 140737488355328) (hc : ∀ j, j < zs.length → w.cell? ⟨b, off + j, none⟩ = some (.int .i64 (zs.getD j 0))) :
    Calls Try.prog 115 #[.slice (some ⟨b, off, none⟩) n c] w fun e w' => ∃ v', e = .returned v' ∧ w'.ownsRow w.heap.size 3 1 v' n ((zs.take n).map (Value.int .i64)) ∧ v' ≠ .slice none 0 0 ∧ Below w.heap.size w w' := Any.slices_Clone_int Try.laysNm215 b off n c zs w hz hbig hc
open Go.RowKit Go.Lib in
theorem Try.slices_Clone_int_nil (n c : Nat) (w : World) :
    Calls Try.prog 115 #[.slice none n c] w fun e w' => e = .returned (.slice none 0 0) ∧ w' = w := Any.slices_Clone_int_nil Try.laysNm215 n c w
open Go.RowKit Go.Lib in
theorem Try.slices_Clone_int_zero (a : Addr) (c : Nat) (w : World) :
    Calls Try.prog 115 #[.slice (some a) 0 c] w fun e w' => ∃ v', e = .returned v' ∧ w'.ownsRow w.heap.size 3 1 v' 0 [] ∧ v' ≠ .slice none 0 0 ∧ Below w.heap.size w w' := Any.slices_Clone_int_zero Try.laysNm215 a c w
end Go.Proofs
end

section
/-
  Chapter 3, in the program: slices.Clone over slices of ints.
-/
namespace Go.Proofs.Ytpelnfenfeoeeaa
open Go.RowKit

/-- A copy in memory of the call's own. -/
def Copy (zs : List Int) (w : World) (e : Ending) (w' : World) : Prop := ∃ v, e = .returned v ∧ Own w.heap.size w' v zs ∧ Below w.heap.size w w'

theorem iClone (a : Option Addr) (cap : Nat) (zs : List Int) (w : World) (h : Rd w a zs) (hn : zs.length ≤ 16777216) :
    Calls Try.prog 115 #[.slice a zs.length cap] w (Copy zs w) := by
  rcases Nat.eq_zero_or_pos zs.length with e | hz
  · obtain rfl : zs = [] := List.eq_nil_of_length_eq_zero e
    cases a with
    | none => exact (Try.slices_Clone_int_nil 0 cap w).mono fun e w' ⟨h1, h2⟩ => ⟨_, h1, .inl ⟨rfl, rfl⟩, by rw [h2]; exact Below.refl _ _⟩
    | some x => exact (Try.slices_Clone_int_zero x cap w).mono fun e w' ⟨v, h1, h2, _, h3⟩ => ⟨v, h1, Own.of_row h2 (by simp), h3⟩
  · obtain ⟨b, o, rfl⟩ := h.addr hz
    refine (Try.slices_Clone_int b o zs.length cap zs w (Nat.le_refl _) (by omega) h.cells).mono fun e w' ⟨v, h1, h2, _, h3⟩ => ⟨v, h1, Own.of_row ?_ hn, h3⟩
    rw [List.take_length] at h2
    exact h2
/-- The first k cells are those of f, the others are as they were. -/
def mixL (xs : List Int) (k : Nat) (f : Nat → Int) : List Int := (List.range xs.length).map fun i => if i < k then f i else xs.getD i 0
theorem mixL_length (xs : List Int) (k : Nat) (f : Nat → Int) : (mixL xs k f).length = xs.length := by simp [mixL]
theorem mixL_zero (xs : List Int) (f : Nat → Int) : mixL xs 0 f = xs := by
  apply List.ext_getElem (by simp [mixL])
  intro i h1 h2
  simp [mixL, List.getD, h2]
theorem mixL_all (xs : List Int) (f : Nat → Int) : mixL xs xs.length f = (List.range xs.length).map f := by
  apply List.ext_getElem (by simp [mixL])
  intro i h1 h2
  have : i < xs.length := by simpa [mixL] using h1
  simp [mixL, this]
theorem mixL_at (xs : List Int) (k : Nat) (f : Nat → Int) : (mixL xs k f).getD k 0 = xs.getD k 0 := by
  unfold mixL List.getD
  rcases Nat.lt_or_ge k xs.length with h | h
  · simp [h]
  · simp [h]
theorem mixL_step (xs : List Int) (k : Nat) (f : Nat → Int) : (mixL xs k f).set k (f k) = mixL xs (k + 1) f := by
  apply List.ext_getElem (by simp [mixL])
  intro i h1 h2
  have hi : i < xs.length := by simpa [mixL] using h2
  rw [List.getElem_set]
  by_cases e : k = i
  · subst e; simp [mixL]
  · simp only [e, if_false]
    simp only [mixL, List.getElem_map, List.getElem_range]
    by_cases h3 : i < k
    · rw [if_pos h3, if_pos (by omega)]
    · rw [if_neg h3, if_neg (by omega)]
theorem Own.cases {B : Nat} {w : World} {v : Value} {zs : List Int} (h : Own B w v zs) : (v = .slice none 0 0 ∧ zs = []) ∨ ∃ (g cap : Nat), v = .slice (some ⟨g, 0, none⟩) zs.length cap ∧ B ≤ g ∧ Ints w g zs ∧ zs.length ≤ cap := by
  rcases h with h | ⟨g, cap, hv, hB, hi, hl, _⟩
  · exact .inl h
  · exact .inr ⟨g, cap, hv, hB, hi, hl⟩
theorem In.cases {B T : Nat} {w : World} {v : Value} {zs : List Int} (h : In B T w v zs) : (v = .slice none 0 0 ∧ zs = []) ∨ ∃ (g cap : Nat), v = .slice (some ⟨g, 0, none⟩) zs.length cap ∧ B ≤ g ∧ g < T ∧ Ints w g zs ∧ zs.length ≤ cap := by
  rcases h with h | ⟨g, cap, hv, hB, hT, hi, hl, _⟩
  · exact .inl h
  · exact .inr ⟨g, cap, hv, hB, hT, hi, hl⟩
/-- A clone of n ints. -/
def CopyN (n : Nat) (zs : List Int) (w : World) (e : Ending) (w' : World) : Prop := ∃ q qc, e = .returned (.slice q n qc) ∧ Own w.heap.size w' (.slice q n qc) zs ∧ Below w.heap.size w w'
theorem iCloneN (a : Option Addr) (cap n : Nat) (zs : List Int) (hz : zs.length = n) (w : World) (h : Rd w a zs) (hn : n ≤ 16777216) :
    Calls Try.prog 115 #[.slice a n cap] w (CopyN n zs w) := by
  subst hz
  refine (iClone a cap zs w h hn).mono ?_
  rintro e w' ⟨v, rfl, own, hb⟩
  obtain ⟨q, qc, rfl, -, -⟩ := own.form
  exact ⟨q, qc, rfl, own, hb⟩
theorem seven {W w' : World} {b : Nat} {t : TypeId} {p q r : Value} (h0 : Blk3 W b t p q r) (hb : Below W.heap.size W w') :
    w'.cell? ⟨b, 0, none⟩ = some p ∧ w'.cell? ⟨b, 1, none⟩ = some q ∧ w'.cell? ⟨b, 2, none⟩ = some r :=
  ⟨(h0.keep hb h0.lt).cell0, (h0.keep hb h0.lt).cell1, (h0.keep hb h0.lt).cell2⟩
end Go.Proofs.Ytpelnfenfeoeeaa
end

section
/-
  Chapter 3, in the program: a matrix copied.
-/
namespace Go.Proofs.Ytpelnfenfeoeeaa
set_option maxRecDepth 100000
open Go.RowKit

def CopyM (r c : Int) (n : Nat) (zs : List Int) (w : World) (e : Ending) (w' : World) : Prop := ∃ q qc, e = .returned (.agg #[.int .i64 r, .int .i64 c, .slice q n qc]) ∧ Own w.heap.size w' (.slice q n qc) zs ∧ Below w.heap.size w w'
set_option maxHeartbeats 400000 in
theorem iCopyOf (r c : Int) (a : Option Addr) (cap n : Nat) (zs : List Int) (hz : zs.length = n) (w : World) (h : Rd w a zs) (hn : n ≤ 16777216) :
    Calls Try.prog 60 #[.agg #[.int .i64 r, .int .i64 c, .slice a n cap]] w (CopyM r c n zs w) := by
  have H := Lib.hid h
  have HZ := Lib.hid hz
  have K0 : Hid (Blk3 ((w.alloc (.cells #[.int .i64 r, .int .i64 c, .slice a n cap] 26)).alloc (.cells #[.int .i64 0, .int .i64 0, .slice none 0 0] 26)) w.heap.size 26 (.int .i64 r) (.int .i64 c) (.slice a n cap)) := (Blk3.at_ _ _ _ _ rfl).old _
  have K1 : Hid (Blk3 ((w.alloc (.cells #[.int .i64 r, .int .i64 c, .slice a n cap] 26)).alloc (.cells #[.int .i64 0, .int .i64 0, .slice none 0 0] 26)) (w.heap.size + 1) 26 (.int .i64 0) (.int .i64 0) (.slice none 0 0)) := Blk3.at_ _ _ _ _ (by simp)
  have B : Hid (Below w.heap.size w ((w.alloc (.cells #[.int .i64 r, .int .i64 c, .slice a n cap] 26)).alloc (.cells #[.int .i64 0, .int .i64 0, .slice none 0 0] 26))) := ((Below.refl _ _).alloc (Nat.le_refl _) _).alloc (by simp) _
  clear h hz
  go_enter Try.func60, Try.ntmps60
  go_wp2_with fail
  refine wp_region_held_drew (S := fun w' => Blk3 w' w.heap.size 26 (.int .i64 r) (.int .i64 c) (.slice a n cap) ∧ (∃ p q r, Blk3 w' (w.heap.size + 1) 26 p q r) ∧ Below w.heap.size w w') (by kernel_rfl) ⟨K0.out.drew, ⟨_, _, _, K1.out.drew⟩, B.out.drew⟩ (fun hH => ?_)
  refine wpAnyH_take (i := 0) (v := ?_) (by simp only [List.getElem?_toArray, List.getElem?_cons_zero]; rfl) (by kernel_rfl) (by kernel_rfl) (by kernel_rfl) (by exact fun _ _ _ h => h) (Or.inl ⟨by rfl, ?_⟩) hH ?_
  rotate_left
  · (intro wS hS; (try dsimp only at hS); obtain ⟨hS, -, -⟩ := hS; obtain ⟨k1, k2, k3, -, -, -⟩ := hS.all; go_simp; try rfl)
  try simp only [Act.put, List.setIfInBounds_toArray, List.set_cons_zero, List.set_cons_succ]
  refine wpAnyH_take (i := 1) (v := ?_) (by simp only [List.getElem?_toArray, List.getElem?_cons_succ, List.getElem?_cons_zero]; rfl) (by kernel_rfl) (by kernel_rfl) (by kernel_rfl) (by exact fun _ _ _ h => h) (Or.inl ⟨by rfl, ?_⟩) hH ?_
  rotate_left
  · (intro wS hS; (try dsimp only at hS); obtain ⟨hS, -, -⟩ := hS; obtain ⟨k1, k2, k3, -, -, -⟩ := hS.all; go_simp; try rfl)
  try simp only [Act.put, List.setIfInBounds_toArray, List.set_cons_zero, List.set_cons_succ]
  refine wpAnyH_take (i := 2) (v := ?_) (by simp only [List.getElem?_toArray, List.getElem?_cons_succ, List.getElem?_cons_zero]; rfl) (by kernel_rfl) (by kernel_rfl) (by kernel_rfl) (by exact fun _ _ _ h => h) (Or.inl ⟨by rfl, ?_⟩) hH ?_
  rotate_left
  · (intro wS hS; (try dsimp only at hS); obtain ⟨hS, -, -⟩ := hS; obtain ⟨k1, k2, k3, -, -, -⟩ := hS.all; go_simp; try rfl)
  try simp only [Act.put, List.setIfInBounds_toArray, List.set_cons_zero, List.set_cons_succ]
  refine wpAnyH_take (i := 3) (v := ?_) (by simp only [List.getElem?_toArray, List.getElem?_cons_succ, List.getElem?_cons_zero]; rfl) (by kernel_rfl) (by kernel_rfl) (by kernel_rfl) (by exact fun _ _ _ h => h) (Or.inl ⟨by rfl, ?_⟩) hH ?_
  rotate_left
  · (intro wS hS; (try dsimp only at hS); obtain ⟨hS, -, -⟩ := hS; obtain ⟨k1, k2, k3, -, -, -⟩ := hS.all; go_simp; try rfl)
  try simp only [Act.put, List.setIfInBounds_toArray, List.set_cons_zero, List.set_cons_succ]
  refine wpAnyH_take (i := 4) (v := ?_) (by simp only [List.getElem?_toArray, List.getElem?_cons_succ, List.getElem?_cons_zero]; rfl) (by kernel_rfl) (by kernel_rfl) (by kernel_rfl) (by exact fun _ _ _ h => h) (Or.inl ⟨by rfl, ?_⟩) hH ?_
  rotate_left
  · (intro wS hS; (try dsimp only at hS); obtain ⟨hS, -, -⟩ := hS; obtain ⟨k1, k2, k3, -, -, -⟩ := hS.all; go_simp; try rfl)
  try simp only [Act.put, List.setIfInBounds_toArray, List.set_cons_zero, List.set_cons_succ]
  refine wpAnyH_take (i := 5) (v := ?_) (by simp only [List.getElem?_toArray, List.getElem?_cons_succ, List.getElem?_cons_zero]; rfl) (by kernel_rfl) (by kernel_rfl) (by kernel_rfl) (by exact fun _ _ _ h => h) (Or.inl ⟨by rfl, ?_⟩) hH ?_
  rotate_left
  · (intro wS hS; (try dsimp only at hS); obtain ⟨hS, -, -⟩ := hS; obtain ⟨k1, k2, k3, -, -, -⟩ := hS.all; go_simp; try rfl)
  try simp only [Act.put, List.setIfInBounds_toArray, List.set_cons_zero, List.set_cons_succ]
  refine wpAnyH_ready (rs := [6]) (by kernel_rfl) (by simp) ?_
  refine AllReadyH.cons (by simp only [List.getElem?_toArray, List.getElem?_cons_succ, List.getElem?_cons_zero]; rfl) (fun K hK => ?_) AllReadyH.nil
  go_simp
  obtain ⟨hH0, ⟨p, q, s, hH1⟩, hH2⟩ := hH
  have l1 := hH1.lt
  (with_reducible refine (iCloneN a cap n zs HZ.out _ (H.out.below hH2) (by omega)).mono ?_)
  rintro e v1 ⟨q0, qc, rfl, own, hb1⟩
  try dsimp only
  have J0 := Lib.hid (hH0.step hb1)
  have J1 := Lib.hid (hH1.step hb1)
  have JB := Lib.hid (stepB hH2 hb1)
  have O := Lib.hid own
  have l2 : w.heap.size + 1 < _ := l1
  refine hK.out _ _ ⟨J0.out, ⟨_, _, _, J1.out⟩, JB.out⟩ (fun hH => ?_)
  clear hK K own
  try simp only [Act.put, List.setIfInBounds_toArray, List.set_cons_zero, List.set_cons_succ]
  refine wpAnyH_take (i := 7) (v := ?_) (by simp only [List.getElem?_toArray, List.getElem?_cons_succ, List.getElem?_cons_zero]; rfl) (by kernel_rfl) (by kernel_rfl) (by kernel_rfl) (by exact fun _ _ _ h => h) (Or.inl ⟨by rfl, ?_⟩) hH ?_
  rotate_left
  · (intro wS hS; clear hS; go_simp; try rfl)
  try simp only [Act.put, List.setIfInBounds_toArray, List.set_cons_zero, List.set_cons_succ]
  refine wpAnyH_ready (rs := [8]) (by kernel_rfl) (by simp) ?_
  refine AllReadyH.cons (by simp only [List.getElem?_toArray, List.getElem?_cons_succ, List.getElem?_cons_zero]; rfl) (fun K hK => ?_) AllReadyH.nil
  obtain ⟨y0, y1, y2, y3, y4, y5⟩ := J1.out.all
  clear hH
  go_simp
  have Z0 := Lib.hid (((J0.out.far (a := ⟨w.heap.size + 1, 0, none⟩) (by simp) (.int .i64 r)).far (a := ⟨w.heap.size + 1, 1, none⟩) (by simp) (.int .i64 c)).far (a := ⟨w.heap.size + 1, 2, none⟩) (by simp) (.slice q0 n qc))
  have Z1 := Lib.hid (((J1.out.set0 (.int .i64 r)).set1 (.int .i64 c)).set2 (.slice q0 n qc))
  have OO := Lib.hid (((O.out.far (a := ⟨w.heap.size + 1, 0, none⟩) l2 (.int .i64 r)).far (a := ⟨w.heap.size + 1, 1, none⟩) l2 (.int .i64 c)).far (a := ⟨w.heap.size + 1, 2, none⟩) l2 (.slice q0 n qc))
  refine hK.out _ _ ⟨Z0.out, ⟨_, _, _, Z1.out⟩, ((JB.out.setCell (Nat.le_succ _) _).setCell (Nat.le_succ _) _).setCell (Nat.le_succ _) _⟩ (fun hH => ?_)
  have ZB := Lib.hid hH.2.2
  clear hK K hH
  refine wpAnyH_done (by kernel_rfl) ?_ _
  go_wp2_with fail
  obtain ⟨E0, E1, E2, -, -, -⟩ := Z1.out.all
  exact bodyPost_ret (v := .agg #[.int .i64 r, .int .i64 c, .slice q0 n qc]) (by simp [results, Try.results60, go_sem, E0, E1, E2]) rfl ⟨q0, qc, rfl, OO.out.le (by omega), ZB.out⟩
end Go.Proofs.Ytpelnfenfeoeeaa
end

section
/-
  Chapter 3, in the program: a matrix that is handed on if it is valid.
-/
namespace Go.Proofs.Ytpelnfenfeoeeaa
open Go.RowKit

set_option maxHeartbeats 400000 in
theorem iDone (r c : Int) (a : Option Addr) (cap : Nat) (zs : List Int) (w : World) (h : Rd w a zs) (hn : zs.length ≤ 16777216) :
    Calls Try.prog 92 #[.agg #[.int .i64 r, .int .i64 c, .slice a zs.length cap]] w (Gives (DoneRes r c (.slice a zs.length cap) (isMat r c zs)) w) := by
  have H := Lib.hid h
  clear h
  go_enter Try.func92, Try.ntmps92
  go_wp2_with fail
  refine (iIsMat r c a cap zs _ (H.out.below (((Below.refl _ _).alloc (Nat.le_refl _) _).alloc (by simp) _)) hn).mono ?_
  rintro e w1 ⟨rfl, hb⟩
  have K0 : Hid (Blk3 w1 w.heap.size 26 (.int .i64 r) (.int .i64 c) (.slice a zs.length cap)) := ((Blk3.at_ _ _ _ _ rfl).old _).keep hb (by simp <;> omega)
  have K1 : Hid (Blk3 w1 (w.heap.size + 1) 26 (.int .i64 0) (.int .i64 0) (.slice none 0 0)) := (Blk3.at_ _ _ _ _ (by simp)).keep hb (by simp)
  have B : Hid (Below w.heap.size w w1) := (((Below.refl _ _).alloc (Nat.le_refl _) _).alloc (by simp) _).trans (hb.mono (by simp <;> omega))
  clear hb
  obtain ⟨c0, c1, c2, -, -, -⟩ := K0.out.all
  obtain ⟨d0, d1, d2, g0, g1, g2⟩ := K1.out.all
  have BB : ∀ x y z, Below w.heap.size w (((w1.setCell ⟨w.heap.size + 1, 0, none⟩ x).setCell ⟨w.heap.size + 1, 1, none⟩ y).setCell ⟨w.heap.size + 1, 2, none⟩ z) := fun x y z =>
    ((B.out.setCell (Nat.le_succ _) _).setCell (Nat.le_succ _) _).setCell (Nat.le_succ _) _
  have BH := Lib.hid BB
  clear BB
  rcases Bool.eq_false_or_eq_true (isMat r c zs) with hm | hm
  · rw [hm]
    have M := Lib.hid hm
    clear hm
    go_wp2_with fail
    obtain ⟨E0, E1, E2, -, -, -⟩ := (((K1.out.set0 (.int .i64 r)).set1 (.int .i64 c)).set2 (.slice a zs.length cap)).all
    exact bodyPost_ret (v := .tuple #[.agg #[.int .i64 r, .int .i64 c, .slice a zs.length cap], .bool true]) (by simp [results, Try.results92, go_sem, E0, E1, E2]) rfl ⟨by rw [M.out]; rfl, BH.out _ _ _⟩
  · rw [hm]
    have M := Lib.hid hm
    clear hm
    go_wp2_with fail
    obtain ⟨E0, E1, E2, -, -, -⟩ := (((K1.out.set0 (.int .i64 0)).set1 (.int .i64 0)).set2 (.slice none 0 0)).all
    exact bodyPost_ret (v := .tuple #[.agg #[.int .i64 0, .int .i64 0, .slice none 0 0], .bool false]) (by simp [results, Try.results92, go_sem, E0, E1, E2]) rfl ⟨by rw [M.out]; rfl, BH.out _ _ _⟩

end Go.Proofs.Ytpelnfenfeoeeaa
end

section
/-
  Chapter 5, in the program: DoRowOp.
-/
namespace Go.Proofs.Ytpelnfenfeoeeaa
set_option maxRecDepth 100000
open Go.RowKit

theorem sevB {W w' : World} {b b' : Nat} {t t' : TypeId} {p q r x y z u : Value} (h0 : Blk3 W b t p q r) (h1 : Blk4 W b' t' x y z u) (hb : Below W.heap.size W w') :
    w'.cell? ⟨b, 0, none⟩ = some p ∧ w'.cell? ⟨b, 1, none⟩ = some q ∧ w'.cell? ⟨b, 2, none⟩ = some r ∧ w'.cell? ⟨b', 0, none⟩ = some x ∧ w'.cell? ⟨b', 1, none⟩ = some y ∧ w'.cell? ⟨b', 2, none⟩ = some z ∧ w'.cell? ⟨b', 3, none⟩ = some u := by
  obtain ⟨a1, a2, a3, -, -, -⟩ := (h0.step hb).all
  obtain ⟨c1, c2, c3, c4⟩ := (h1.step hb).all
  exact ⟨a1, a2, a3, c1, c2, c3, c4⟩
theorem colCells {W w' : World} {b ba oa i j n : Nat} {t : TypeId} {p q r : Value} {xs : List Int} (h0 : Blk3 W b t p q r) (h : Rd W (some ⟨ba, oa, none⟩) xs) (hn : xs.length = n) (hi : i < n) (hj : j < n) (hb : Below W.heap.size W w') :
    w'.cell? ⟨b, 0, none⟩ = some p ∧ w'.cell? ⟨b, 1, none⟩ = some q ∧ w'.cell? ⟨b, 2, none⟩ = some r ∧ w'.cell? ⟨ba, oa + i, none⟩ = some (.int .i64 (xs.getD i 0)) ∧ w'.cell? ⟨ba, oa + j, none⟩ = some (.int .i64 (xs.getD j 0)) := by
  obtain ⟨a1, a2, a3, -, -, -⟩ := (h0.step hb).all
  exact ⟨a1, a2, a3, (h.below hb).cells i (by omega), (h.below hb).cells j (by omega)⟩
end Go.Proofs.Ytpelnfenfeoeeaa
end
