/-
  Chapter 6, in the program: one step without fractions, in place.
-/
import Derived.Test.YtbdofgkcedpamaaPivI
import Derived.Test.YtbdofgkcedpamaaRwI
namespace Go.Proofs.Ytbdofgkcedpamaa
set_option maxRecDepth 100000
open Go.RowKit

set_option maxHeartbeats 2000000 in
theorem iStepIn (n t N cap g : Nat) (ys : List Int) (last : Int) (w : World) (hN : n * n = N) (hx : ys.length = N) (ht : t < n) (h6 : n ≤ 6) (hc : N ≤ cap) (nx : nums ys = true) (hl : NumP last) (hl0 : last ≠ 0) (hi : Ints w g ys) :
    Calls Try.prog 79 #[.agg #[.int .i64 n, .int .i64 n, .slice (some ⟨g, 0, none⟩) N cap], .int .i64 t, .int .i64 last] w (fun e w' => ((e = .returned (.bool true) ∧ nums (elL n t last ys) = true ∧ Ints w' g (elL n t last ys)) ∨ (e = .returned (.bool false) ∧ nums (elL n t last ys) ≠ true)) ∧ w.grownBy w' (some g)) := by
  have hle : n * n ≤ 6 * 6 := Nat.mul_le_mul h6 h6
  rw [hN] at hle
  have HN := Lib.hid hN
  have HY := Lib.hid hx
  have NY := Lib.hid nx
  have L0 := Lib.hid hl0
  have LL := Lib.hid hl
  have lg := hi.lt
  have GW : Hid (w.grownBy (w.alloc (.cells #[.int .i64 n, .int .i64 n, .slice (some ⟨g, 0, none⟩) N cap] 26)) (some g)) := World.grownBy_alloc _ _ _
  have K0 : Hid (Blk3 (w.alloc (.cells #[.int .i64 n, .int .i64 n, .slice (some ⟨g, 0, none⟩) N cap] 26)) w.heap.size 26 (.int .i64 n) (.int .i64 n) (.slice (some ⟨g, 0, none⟩) N cap)) := Blk3.at_ _ _ _ _ rfl
  have I := Lib.hid (hi.old (.cells #[.int .i64 n, .int .i64 n, .slice (some ⟨g, 0, none⟩) N cap] 26))
  have RW : Hid (∀ k w', k < n → Calls Try.prog 52 #[.agg #[.int .i64 n, .int .i64 n, .slice (some ⟨g, 0, none⟩) N cap], .int .i64 k] w' (RowAt (some ⟨g, 0, none⟩) (k * n) n w')) := fun k w' hk => iRowIn n n k (k * n) N cap _ w' (.inr ⟨g, 0, rfl⟩) rfl (by rw [← hN, ← Nat.succ_mul]; exact Nat.mul_le_mul_right _ hk) hc (fun h => by cases h) (by omega) (by omega)
  clear hN hx hi nx hl hl0
  obtain ⟨Dt, hDt⟩ : ∃ D, t * n = D := ⟨_, rfl⟩
  have HDt := Lib.hid hDt
  obtain ⟨p0, p1, p2, -, -, -⟩ := K0.out.all
  go_enter Try.func79, Try.ntmps79
  go_wp2_with fail
  generalize w.alloc (.cells #[.int .i64 n, .int .i64 n, .slice (some ⟨g, 0, none⟩) N cap] 26) = W at GW K0 I p0 p1 p2
  refine (RW.out t _ ht).mono ?_
  rintro e w1 ⟨q1, m1, rfl, -, hq1, -, hb1⟩
  obtain rfl := hq1 g 0 rfl (by omega)
  rw [Nat.zero_add, hDt]
  have I := Lib.hid (I.out.keep hb1 I.out.lt)
  have G1 := Lib.hid (grown_of_below hb1 (some g))
  clear hq1 hb1 hDt p0 p1 p2
  obtain ⟨p0, p1, p2, -, -, -⟩ := (K0.out.keepOne G1.out (by omega)).all
  go_wp2_with fail
  clear p0 p1 p2
  go_loopw [6, 8, 9, 10] (fun _ v8 _ _ wu => ∃ i : Nat, v8 = .int .i64 i ∧ t + 1 ≤ i ∧ i ≤ n ∧ nums (elTo n t last ys i (t + 1)) = true ∧ Ints wu g (elTo n t last ys i (t + 1)) ∧ W.grownBy wu (some g)) (fun _ v8 _ _ _ => n - (intOf v8).toNat)
  case atStart => exact ⟨t + 1, by go_num, Nat.le_refl _, by omega, by rw [elTo_start (by rw [HY.out, HN.out])]; exact NY.out, by rw [elTo_start (by rw [HY.out, HN.out])]; exact I.out, G1.out⟩
  case round =>
    obtain ⟨i, rfl, hi1, hi2, hni, hii, hgi⟩ := hrel
    have NI := Lib.hid hni
    have II := Lib.hid hii
    have GI := Lib.hid hgi
    have R3 := Lib.hid (K0.out.keepOne hgi (by omega))
    clear hni hii hgi
    obtain ⟨r0, r1, r2, -, -, -⟩ := R3.out.all
    by_cases hin : i < n
    · obtain ⟨Di, hDi⟩ : ∃ D, i * n = D := ⟨_, rfl⟩
      have HDi := Lib.hid hDi
      go_wp2_with fail
      refine (RW.out i _ hin).mono ?_
      rintro e w2 ⟨q2, m2, rfl, -, hq2, -, hb2⟩
      obtain rfl := hq2 g 0 rfl (by omega)
      rw [Nat.zero_add, hDi]
      have II := Lib.hid (II.out.keep hb2 II.out.lt)
      have GI := Lib.hid (GI.out.trans (grown_of_below hb2 (some g)))
      clear hq2 hb2 hDi r0 r1 r2
      obtain ⟨r0, r1, r2, -, -, -⟩ := (K0.out.keepOne GI.out (by omega)).all
      go_wp2_with fail
      clear r0 r1 r2
      go_loopw [6, 10] (fun _ v10 wv => ∃ j : Nat, v10 = .int .i64 j ∧ t + 1 ≤ j ∧ j ≤ n ∧ nums (elTo n t last ys i j) = true ∧ Ints wv g (elTo n t last ys i j) ∧ W.grownBy wv (some g)) (fun _ v10 _ => n - (intOf v10).toNat)
      case atStart => exact ⟨t + 1, by go_num, Nat.le_refl _, by omega, NI.out, II.out, GI.out⟩
      case round =>
        obtain ⟨j, rfl, hj1, hj2, hnj, hij, hgj⟩ := hrel
        have NJ := Lib.hid hnj
        have IJ := Lib.hid hij
        have GJ := Lib.hid hgj
        have R3 := Lib.hid (K0.out.keepOne hgj (by omega))
        clear hnj hij hgj
        obtain ⟨r0, r1, r2, -, -, -⟩ := R3.out.all
        by_cases hjn : j < n
        · have ti : t < i := by omega
          have tj : t < j := by omega
          have jt : (t : Int) < (n : Int) := by omega
          have jj : (j : Int) < (n : Int) := by omega
          have hla : (elTo n t last ys i j).length = N := by rw [elTo_length, HN.out]
          have ja : i * n + j < N := by rw [← HN.out]; exact idx_lt (by omega) (by omega)
          have jb : t * n + t < N := by rw [← HN.out]; exact idx_lt (by omega) (by omega)
          have jc : i * n + t < N := by rw [← HN.out]; exact idx_lt (by omega) (by omega)
          have jd : t * n + j < N := by rw [← HN.out]; exact idx_lt (by omega) (by omega)
          have ha := IJ.out.cell (i := i * n + j) (by rw [hla]; exact ja)
          have hb := IJ.out.cell (i := t * n + t) (by rw [hla]; exact jb)
          have hc := IJ.out.cell (i := i * n + t) (by rw [hla]; exact jc)
          have hd := IJ.out.cell (i := t * n + j) (by rw [hla]; exact jd)
          rw [elTo_old hin hjn (by omega)] at ha
          rw [elTo_old ht ht (by omega)] at hb
          rw [elTo_old hin ht (by omega)] at hc
          rw [elTo_old ht hjn (by omega)] at hd
          have hfr := IJ.out.free (i * n + j)
          have EA : Hid (elAt n t last ys i j = (ys.getD (i * n + j) 0 * ys.getD (t * n + t) 0 - ys.getD (i * n + t) 0 * ys.getD (t * n + j) 0).tdiv last) := rfl
          have na := nums_at NY.out (j := i * n + j) (by rw [HY.out]; exact ja)
          have nb := nums_at NY.out (j := t * n + t) (by rw [HY.out]; exact jb)
          have nc := nums_at NY.out (j := i * n + t) (by rw [HY.out]; exact jc)
          have nd := nums_at NY.out (j := t * n + j) (by rw [HY.out]; exact jd)
          generalize ys.getD (i * n + j) 0 = xa at ha na EA
          generalize ys.getD (t * n + t) 0 = xb at hb nb EA
          generalize ys.getD (i * n + t) 0 = xc at hc nc EA
          generalize ys.getD (t * n + j) 0 = xd at hd nd EA
          have SETC : Hid (∀ y, elAt n t last ys i j = y → Ints (wr.setCell ⟨g, Di + j, none⟩ (.int .i64 y)) g (elTo n t last ys i (j + 1))) := fun y hy => by
            have e2 := IJ.out.set (i * n + j) y
            rw [← hy, elTo_step hin hjn ti tj, hy, HDi.out] at e2
            exact e2
          have GS : Hid (∀ y, W.grownBy (wr.setCell ⟨g, Di + j, none⟩ (.int .i64 y)) (some g)) := fun y => grown_set_one (a := ⟨g, Di + j, none⟩) GJ.out rfl _
          have ES := Lib.hid (elTo_step (last := last) (xs := ys) hin hjn ti tj)
          rw [HDi.out] at ha hc hfr
          rw [HDt.out] at hb hd
          have m1 := mul_num _ _ na nb
          have m2 := mul_num _ _ nc nd
          have v1 : IntKind.i64.wrap (xa * xb) = xa * xb := IntWalk.i64_in _ (by omega)
          have v2 : IntKind.i64.wrap (xc * xd) = xc * xd := IntWalk.i64_in _ (by omega)
          have v3 : IntKind.i64.wrap (xa * xb - xc * xd) = xa * xb - xc * xd := IntWalk.i64_in _ (by omega)
          have m3 := tdiv_in (x := xa * xb - xc * xd) (y := last) (b := 320000000000000000) (by omega) (by omega)
          have v4 : IntKind.i64.wrap ((xa * xb - xc * xd).tdiv last) = (xa * xb - xc * xd).tdiv last := IntWalk.i64_in _ (by omega)
          obtain ⟨y, hy⟩ : ∃ y, elAt n t last ys i j = y := ⟨_, rfl⟩
          have Y := Lib.hid hy
          rw [hy] at EA
          rw [← EA.out] at v4
          have q0 : (xa * xb - xc * xd).tdiv last = y := EA.out.symm
          have l0 := L0.out
          have l00 : (last == 0) = false := by simpa using l0
          clear na nb nc nd m1 m2 m3 hy ja jb jc jd hla
          go_wp2_with fail
          go_still_tail 24, (by kernel_rfl)
          go_wp2_with fail
          have G2 := Lib.hid (grown_drew_one (GS.out y))
          have I2 := Lib.hid (SETC.out y Y.out).drew
          refine (iIsNum y _).mono ?_
          rintro e w5 ⟨rfl, rfl⟩
          clear ha hb hc hd r0 r1 r2 hfr
          by_cases hy : NumP y
          · have NS : Hid (nums (elTo n t last ys i (j + 1)) = true) := by show nums _ = true; rw [← ES.out, Y.out]; exact nums_set NJ.out hy
            rw [decide_eq_true hy]
            clear hy
            go_wp2_with fail
            go_roundw
            case rel => exact ⟨j + 1, by go_num, by omega, by omega, NS.out, I2.out, G2.out⟩
            case measure => simp [intOf]; omega
          · have RZ : Hid (nums (elL n t last ys) ≠ true) := elL_bad hin hjn ti tj (by rw [Y.out]; exact hy)
            rw [decide_eq_false hy]
            clear hy
            go_wp2_with fail
            go_ret
            exact ⟨.inr ⟨rfl, RZ.out⟩, GW.out.trans G2.out⟩
        · have hjn : j = n := by omega
          rw [hjn] at NJ IJ
          go_wp2_with fail
          go_roundw
          case rel => exact ⟨i + 1, by go_num, by omega, by omega, by rw [← elTo_row]; exact NJ.out, by rw [← elTo_row]; exact IJ.out, GJ.out⟩
          case measure => simp [intOf]; omega
    · have hie : i = n := by omega
      rw [hie] at NI II
      rw [elTo_all] at NI II
      go_wp2_with fail
      go_ret
      exact ⟨.inl ⟨rfl, NI.out, II.out⟩, GW.out.trans GI.out⟩
end Go.Proofs.Ytbdofgkcedpamaa
