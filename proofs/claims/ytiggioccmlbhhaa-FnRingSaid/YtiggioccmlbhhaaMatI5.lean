/-
  Chapter 3, in the program: AddMatrices, ScaleMatrix.
-/
import Derived.Test.YtiggioccmlbhhaaCopyI
import Derived.Test.YtiggioccmlbhhaaDoneI
import Derived.Test.YtiggioccmlbhhaaMatS4
import Derived.Test.YtiggioccmlbhhaaScaleS
import Derived.Test.YtiggioccmlbhhaaMem
import Derived.Deep.RegionHeld3
import Derived.Deep.DeepCutAuto
namespace Go.Proofs.Ytiggioccmlbhhaa
open Go.RowKit

set_option maxRecDepth 100000 in
set_option maxHeartbeats 1000000 in
theorem iAdd_t (R C : Nat) (a b : Option Addr) (m n : Nat) (xs ys : List Int) (w : World) (h : Rd w a xs) (h' : Rd w b ys) (hR : R ≤ 24) (hC : C ≤ 24) (hx : xs.length = R * C) (hy : ys.length = R * C)
    (hm : isMat R C xs = true) (hm' : isMat R C ys = true) :
    Calls Try.prog 17 #[.agg #[.int .i64 R, .int .i64 C, .slice a xs.length m], .agg #[.int .i64 R, .int .i64 C, .slice b ys.length n]] w (MatRes (MR.done R C (addL xs ys)) w) := by
  have hle : R * C ≤ 24 * 24 := Nat.mul_le_mul hR hC
  have B0 : ∀ o1 o2 o3, Below w.heap.size w (((w.alloc o1).alloc o2).alloc o3) := fun o1 o2 o3 => (((Below.refl _ _).alloc (Nat.le_refl _) _).alloc (by simp) _).alloc (by simp <;> omega) _
  have BH := Lib.hid B0
  have H := Lib.hid h
  have H' := Lib.hid h'
  have M := Lib.hid hm
  have M' := Lib.hid hm'
  obtain ⟨N, hN⟩ : ∃ N, R * C = N := ⟨_, rfl⟩
  rw [hN] at hx hy hle
  have HX := Lib.hid hx
  have HY := Lib.hid hy
  rw [hx, hy]
  have n1 := (isMat_says hm).2.2.2
  have n2 := (isMat_says hm').2.2.2
  have NX := Lib.hid n1
  have NY := Lib.hid n2
  clear B0 h h' hm hm' hx hy hN n1 n2
  go_enter Try.func17, Try.ntmps17
  go_wp2_with fail
  have ST := iIsMat R C a m xs _ (H.out.below (BH.out (.cells #[.int .i64 R, .int .i64 C, .slice a N m] 26) (.cells #[.int .i64 R, .int .i64 C, .slice b N n] 26) (.cells #[.int .i64 0, .int .i64 0, .slice none 0 0] 26))) (by rw [HX.out]; omega)
  rw [HX.out] at ST
  refine ST.mono ?_
  clear ST
  rintro e w1 ⟨rfl, hb⟩
  have K0 : Hid (Blk3 w1 w.heap.size 26 (.int .i64 R) (.int .i64 C) (.slice a N m)) := (((Blk3.at_ _ _ _ _ rfl).old _).old _).keep hb (by simp <;> omega)
  have K1 : Hid (Blk3 w1 (w.heap.size + 1) 26 (.int .i64 R) (.int .i64 C) (.slice b N n)) := ((Blk3.at_ _ _ _ _ (by simp)).old _).keep hb (by simp <;> omega)
  have K2 : Hid (Blk3 w1 (w.heap.size + 1 + 1) 26 (.int .i64 0) (.int .i64 0) (.slice none 0 0)) := (Blk3.at_ _ _ _ _ (by simp)).keep hb (by simp)
  have B : Hid (Below w.heap.size w w1) := (BH.out _ _ _).trans (hb.mono (by simp <;> omega))
  clear hb
  obtain ⟨c0, c1, c2, -, -, -⟩ := K0.out.all
  obtain ⟨d0, d1, d2, -, -, -⟩ := K1.out.all
  rw [M.out]
  go_wp2_with fail
  have ST := iIsMat R C b n ys _ (H'.out.below B.out) (by rw [HY.out]; omega)
  rw [HY.out] at ST
  refine ST.mono ?_
  clear ST
  rintro e w2 ⟨rfl, hb⟩
  have K0 := Lib.hid (K0.out.step hb)
  have K1 := Lib.hid (K1.out.step hb)
  have K2 := Lib.hid (K2.out.step hb)
  have B := Lib.hid (stepB B.out hb)
  clear hb
  obtain ⟨e0, e1, e2, -, -, -⟩ := K0.out.all
  obtain ⟨g0, g1, g2, -, -, -⟩ := K1.out.all
  rw [M'.out]
  go_upto_region 3 with fail
  go_cut [6] (fun s6 wx => ∃ (p6 : Nat) (v0 : Value), s6 = .pointer (some ⟨p6, 0, none⟩) ∧ Blk3 wx p6 26 (.int .i64 R) (.int .i64 C) v0 ∧ In w2.heap.size wx.heap.size wx v0 xs ∧ Below w2.heap.size w2 wx)
  case first =>
    go_wp2_with fail
    refine (iCopyOf R C a m N xs HX.out _ (H.out.below B.out) (by omega)).mono ?_
    rintro e v1 ⟨q0, qc, rfl, own, hb1⟩
    have O := Lib.hid own.inn
    have VB : Hid (Blk3 (v1.alloc (.cells #[.int .i64 R, .int .i64 C, .slice q0 N qc] 26)) v1.heap.size 26 (.int .i64 R) (.int .i64 C) (.slice q0 N qc)) := Blk3.at_ _ _ _ _ rfl
    have HB := Lib.hid hb1
    clear own hb1
    go_wp2_with fail
    go_meet
    exact ⟨v1.heap.size, _, rfl, VB.out, (O.out.old _).wide (Nat.le_refl _) (by simp), HB.out.alloc HB.out.size _⟩
  case rest =>
    obtain ⟨p6, v0, rfl, k6, in0, hb⟩ := hcut
    have lK0 := K0.out.lt
    have K0 := Lib.hid (K0.out.step hb)
    have lK1 := K1.out.lt
    have K1 := Lib.hid (K1.out.step hb)
    have lK2 := K2.out.lt
    have K2 := Lib.hid (K2.out.step hb)
    have B := Lib.hid (stepB B.out hb)
    have K6 := Lib.hid k6
    have LP := hb.size
    clear hb k6
    obtain ⟨cc0, cc1, cc2, -, -, -⟩ := K6.out.all
    obtain ⟨cd0, cd1, cd2, -, -, -⟩ := K1.out.all
    rcases in0.cases with ⟨rfl, rfl⟩ | ⟨g, qc, hv, gB, -, gi, gc⟩
    · obtain rfl : N = 0 := HX.out.symm
      have HL : Hid ((addL [] ys).length = 0) := rfl
      clear in0
      go_wp2_with fail
      go_loopw [7, 8, 37] (fun _ _ i wr => i = .int .i64 0 ∧ wr = wc) (fun _ _ _ _ => 0)
      case atStart => exact ⟨rfl, rfl⟩
      case round =>
        obtain ⟨rfl, rfl⟩ := hrel
        go_wp2_with fail
        have ST := iDone R C none 0 (addL [] ys) wr (Rd.nil _ _) (by rw [HL.out]; omega)
        rw [HL.out] at ST
        refine ST.mono ?_
        clear ST
        rintro e w4 ⟨rfl, hb⟩
        have R2 := Lib.hid (K2.out.step hb)
        have B := Lib.hid (stepB B.out hb)
        clear hb
        obtain ⟨s0, s1, s2, t0, t1, t2⟩ := R2.out.all
        have be : ∀ x y z, Below w.heap.size w (((w4.setCell ⟨w.heap.size + 1 + 1, 0, none⟩ x).setCell ⟨w.heap.size + 1 + 1, 1, none⟩ y).setCell ⟨w.heap.size + 1 + 1, 2, none⟩ z) := fun x y z =>
          (((B.out.setCell (by show w.heap.size ≤ w.heap.size + 1 + 1; omega) _).setCell (by show w.heap.size ≤ w.heap.size + 1 + 1; omega) _).setCell (by show w.heap.size ≤ w.heap.size + 1 + 1; omega) _)
        have BE := Lib.hid be
        clear be
        rcases Bool.eq_false_or_eq_true (isMat R C (addL [] ys)) with hd | hd
        · have E : Hid (MR.done R C (addL [] ys) = ⟨true, R, C, addL [] ys⟩) := by show MR.done R C (addL [] ys) = _; unfold MR.done; rw [hd]; rfl
          rw [hd]
          clear hd
          unfold DoneRes
          go_wp2_with fail
          obtain ⟨E0, E1, E2, -, -, -⟩ := (((R2.out.set0 (.int .i64 R)).set1 (.int .i64 C)).set2 (.slice none 0 0)).all
          rw [E.out]
          refine bodyPost_ret (v := .tuple #[.agg #[.int .i64 R, .int .i64 C, .slice none 0 0], .bool true]) (by simp [results, Try.results17, go_sem, E0, E1, E2]) rfl ⟨_, rfl, .inl ⟨rfl, rfl⟩, ?_⟩
          · exact BE.out _ _ _
        · have E : Hid (MR.done R C (addL [] ys) = MR.no) := by show MR.done R C (addL [] ys) = _; unfold MR.done; rw [hd]; rfl
          rw [hd]
          clear hd
          unfold DoneRes
          go_wp2_with fail
          obtain ⟨E0, E1, E2, -, -, -⟩ := (((R2.out.set0 (.int .i64 0)).set1 (.int .i64 0)).set2 (.slice none 0 0)).all
          rw [E.out]
          exact bodyPost_ret (v := .tuple #[.agg #[.int .i64 0, .int .i64 0, .slice none 0 0], .bool false]) (by simp [results, Try.results17, go_sem, E0, E1, E2]) rfl ⟨_, rfl, .inl ⟨rfl, rfl⟩, BE.out _ _ _⟩
    · have gN : Hid (xs.length = N) := HX
      rw [HX.out] at hv gc
      subst hv
      have NE := gi.ne_blk K6.out
      have GI := Lib.hid gi
      clear in0 gi
      go_wp2_with fail
      go_loopw [7, 8, 37] (fun _ _ i wr => ∃ k : Nat, i = .int .i64 k ∧ k ≤ N ∧ Ints wr g (mixL xs k (fun i => xs.getD i 0 + ys.getD i 0)) ∧ wc.grownBy wr (some g)) (fun _ _ i _ => N - (intOf i).toNat)
      case atStart => exact ⟨0, rfl, by omega, by rw [mixL_zero]; exact GI.out, World.grownBy.refl _ _⟩
      case round =>
        obtain ⟨k, rfl, hk, hi, hgr⟩ := hrel
        have I := Lib.hid hi
        have G := Lib.hid hgr
        clear hi hgr
        have R2 := Lib.hid (K2.out.keepOne G.out (by omega))
        have R6 := Lib.hid (K6.out.keepOne G.out (Ne.symm NE))
        obtain ⟨r0, r1, r2, -, -, -⟩ := R6.out.all
        by_cases hlt : k < N
        · obtain ⟨x, hx⟩ : ∃ x, xs.getD k 0 = x := ⟨_, rfl⟩
          have v1 := nums_at NX.out (j := k) (by rw [HX.out]; exact hlt)
          have hold := I.out.cell (i := k) (by rw [mixL_length, HX.out]; exact hlt)
          rw [mixL_at, hx] at hold
          rw [hx] at v1
          obtain ⟨v11, v12⟩ := v1
          have hfr := I.out.free k
          have XX := Lib.hid hx
          obtain ⟨y, hy⟩ : ∃ y, ys.getD k 0 = y := ⟨_, rfl⟩
          obtain ⟨b2, o2, rfl, hc2⟩ := H'.out k (by rw [HY.out]; exact hlt)
          have u2 := World.block_lt_of_cell? w _ hc2
          have hc2 := G.out.cell ((B.out.cell (p := ⟨b2, o2 + k, none⟩) u2).trans hc2) (by simp; simp at u2; omega)
          have v2 := nums_at NY.out (j := k) (by rw [HY.out]; exact hlt)
          rw [hy] at hc2 v2
          obtain ⟨v21, v22⟩ := v2
          have YY := Lib.hid hy
          clear hx hy u2
          go_wp2_with fail
          go_roundw
          case rel =>
            refine ⟨k + 1, by go_num, by omega, ?_, ?_⟩
            · rw [← mixL_step]
              rw [XX.out, YY.out]
              first | exact I.out.set k _ | exact I.out.drew.set k _
            · first | exact grown_set_one G.out rfl _ | exact grown_drew_one (grown_set_one G.out rfl _)
          case measure => simp [intOf]; omega
        · obtain rfl : N = k := by omega
          have e : mixL xs N (fun i => xs.getD i 0 + ys.getD i 0) = addL xs ys := by rw [← HX.out, mixL_all]; rfl
          have I2 : Hid (Ints wr g (addL xs ys)) := by have := I.out; rw [e] at this; exact this
          have hl : (addL xs ys).length = N := by unfold addL; simp [HX.out]
          have HL := Lib.hid hl
          have B := Lib.hid (B.out.trans (below_of_one G.out (by omega) B.out.size))
          clear e hl
          go_wp2_with fail
          have ST := iDone R C (some ⟨g, 0, none⟩) qc (addL xs ys) wr I2.out.rd (by rw [HL.out]; omega)
          rw [HL.out] at ST
          refine ST.mono ?_
          clear ST
          rintro e w4 ⟨rfl, hb⟩
          have R2 := Lib.hid (R2.out.step hb)
          have I2 := Lib.hid (I2.out.keep hb I2.out.lt)
          have B := Lib.hid (stepB B.out hb)
          clear hb
          obtain ⟨s0, s1, s2, t0, t1, t2⟩ := R2.out.all
          have be : ∀ x y z, Below w.heap.size w (((w4.setCell ⟨w.heap.size + 1 + 1, 0, none⟩ x).setCell ⟨w.heap.size + 1 + 1, 1, none⟩ y).setCell ⟨w.heap.size + 1 + 1, 2, none⟩ z) := fun x y z =>
            (((B.out.setCell (by show w.heap.size ≤ w.heap.size + 1 + 1; omega) _).setCell (by show w.heap.size ≤ w.heap.size + 1 + 1; omega) _).setCell (by show w.heap.size ≤ w.heap.size + 1 + 1; omega) _)
          have BE := Lib.hid be
          clear be
          rcases Bool.eq_false_or_eq_true (isMat R C (addL xs ys)) with hd | hd
          · have E : Hid (MR.done R C (addL xs ys) = ⟨true, R, C, addL xs ys⟩) := by show MR.done R C (addL xs ys) = _; unfold MR.done; rw [hd]; rfl
            rw [hd]
            clear hd
            unfold DoneRes
            go_wp2_with fail
            obtain ⟨E0, E1, E2, -, -, -⟩ := (((R2.out.set0 (.int .i64 R)).set1 (.int .i64 C)).set2 (.slice (some ⟨g, 0, none⟩) N qc)).all
            rw [E.out]
            refine bodyPost_ret (v := .tuple #[.agg #[.int .i64 R, .int .i64 C, .slice (some ⟨g, 0, none⟩) N qc], .bool true]) (by simp [results, Try.results17, go_sem, E0, E1, E2]) rfl ⟨_, rfl, ?_, ?_⟩
            · refine .inr ⟨g, qc, by rw [HL.out], by omega, ?_, by rw [HL.out]; omega, by rw [HL.out]; omega⟩
              exact ((I2.out.far (by show g ≠ w.heap.size + 1 + 1; omega) _).far (by show g ≠ w.heap.size + 1 + 1; omega) _).far (by show g ≠ w.heap.size + 1 + 1; omega) _
            · exact BE.out _ _ _
          · have E : Hid (MR.done R C (addL xs ys) = MR.no) := by show MR.done R C (addL xs ys) = _; unfold MR.done; rw [hd]; rfl
            rw [hd]
            clear hd
            unfold DoneRes
            go_wp2_with fail
            obtain ⟨E0, E1, E2, -, -, -⟩ := (((R2.out.set0 (.int .i64 0)).set1 (.int .i64 0)).set2 (.slice none 0 0)).all
            rw [E.out]
            exact bodyPost_ret (v := .tuple #[.agg #[.int .i64 0, .int .i64 0, .slice none 0 0], .bool false]) (by simp [results, Try.results17, go_sem, E0, E1, E2]) rfl ⟨_, rfl, .inl ⟨rfl, rfl⟩, BE.out _ _ _⟩
set_option maxRecDepth 100000 in
set_option maxHeartbeats 1000000 in
theorem iScale_t (R C : Nat) (a : Option Addr) (m : Nat) (xs : List Int) (q : Int) (w : World) (h : Rd w a xs) (hR : R ≤ 24) (hC : C ≤ 24) (hx : xs.length = R * C)
    (hm : isMat R C xs = true) (hq : -400000000 ≤ q ∧ q ≤ 400000000) :
    Calls Try.prog 18 #[.agg #[.int .i64 R, .int .i64 C, .slice a xs.length m], .int .i64 q] w (MatRes (MR.done R C (scaleL xs q)) w) := by
  have hle : R * C ≤ 24 * 24 := Nat.mul_le_mul hR hC
  have B0 : ∀ o1 o2, Below w.heap.size w ((w.alloc o1).alloc o2) := fun o1 o2 => ((Below.refl _ _).alloc (Nat.le_refl _) _).alloc (by simp) _
  have BH := Lib.hid B0
  have H := Lib.hid h
  have M := Lib.hid hm
  obtain ⟨N, hN⟩ : ∃ N, R * C = N := ⟨_, rfl⟩
  rw [hN] at hx hle
  have HX := Lib.hid hx
  rw [hx]
  have n1 := (isMat_says hm).2.2.2
  have NX := Lib.hid n1
  obtain ⟨q1, q2⟩ := hq
  clear B0 h hm hx hN n1
  go_enter Try.func18, Try.ntmps18
  go_wp2_with fail
  have ST := iIsMat R C a m xs _ (H.out.below (BH.out (.cells #[.int .i64 R, .int .i64 C, .slice a N m] 26) (.cells #[.int .i64 0, .int .i64 0, .slice none 0 0] 26))) (by rw [HX.out]; omega)
  rw [HX.out] at ST
  refine ST.mono ?_
  clear ST
  rintro e w1 ⟨rfl, hb⟩
  have K0 : Hid (Blk3 w1 w.heap.size 26 (.int .i64 R) (.int .i64 C) (.slice a N m)) := ((Blk3.at_ _ _ _ _ rfl).old _).keep hb (by simp <;> omega)
  have K2 : Hid (Blk3 w1 (w.heap.size + 1) 26 (.int .i64 0) (.int .i64 0) (.slice none 0 0)) := (Blk3.at_ _ _ _ _ (by simp)).keep hb (by simp)
  have B : Hid (Below w.heap.size w w1) := (BH.out _ _).trans (hb.mono (by simp <;> omega))
  clear hb
  obtain ⟨e0, e1, e2, -, -, -⟩ := K0.out.all
  rw [M.out]
  go_wp2_with fail
  refine (iIsNum_t q _ q1 q2).mono ?_
  rintro e w' ⟨rfl, rfl⟩
  go_upto_region 3 with fail
  go_cut [6] (fun s6 wx => ∃ (p6 : Nat) (v0 : Value), s6 = .pointer (some ⟨p6, 0, none⟩) ∧ Blk3 wx p6 26 (.int .i64 R) (.int .i64 C) v0 ∧ In w1.heap.size wx.heap.size wx v0 xs ∧ Below w1.heap.size w1 wx)
  case first =>
    go_wp2_with fail
    refine (iCopyOf R C a m N xs HX.out _ (H.out.below B.out) (by omega)).mono ?_
    rintro e v1 ⟨q0, qc, rfl, own, hb1⟩
    have O := Lib.hid own.inn
    have VB : Hid (Blk3 (v1.alloc (.cells #[.int .i64 R, .int .i64 C, .slice q0 N qc] 26)) v1.heap.size 26 (.int .i64 R) (.int .i64 C) (.slice q0 N qc)) := Blk3.at_ _ _ _ _ rfl
    have HB := Lib.hid hb1
    clear own hb1
    go_wp2_with fail
    go_meet
    exact ⟨v1.heap.size, _, rfl, VB.out, (O.out.old _).wide (Nat.le_refl _) (by simp), HB.out.alloc HB.out.size _⟩
  case rest =>
    obtain ⟨p6, v0, rfl, k6, in0, hb⟩ := hcut
    have lK0 := K0.out.lt
    have K0 := Lib.hid (K0.out.step hb)
    have lK2 := K2.out.lt
    have K2 := Lib.hid (K2.out.step hb)
    have B := Lib.hid (stepB B.out hb)
    have K6 := Lib.hid k6
    have LP := hb.size
    clear hb k6
    obtain ⟨cc0, cc1, cc2, -, -, -⟩ := K6.out.all
    rcases in0.cases with ⟨rfl, rfl⟩ | ⟨g, qc, hv, gB, -, gi, gc⟩
    · obtain rfl : N = 0 := HX.out.symm
      have HL : Hid ((scaleL [] q).length = 0) := rfl
      clear in0
      go_wp2_with fail
      go_loopw [7, 22] (fun _ i wr => i = .int .i64 0 ∧ wr = wc) (fun _ _ _ => 0)
      case atStart => exact ⟨rfl, rfl⟩
      case round =>
        obtain ⟨rfl, rfl⟩ := hrel
        go_wp2_with fail
        have ST := iDone R C none 0 (scaleL [] q) wr (Rd.nil _ _) (by rw [HL.out]; omega)
        rw [HL.out] at ST
        refine ST.mono ?_
        clear ST
        rintro e w4 ⟨rfl, hb⟩
        have R2 := Lib.hid (K2.out.step hb)
        have B := Lib.hid (stepB B.out hb)
        clear hb
        obtain ⟨s0, s1, s2, t0, t1, t2⟩ := R2.out.all
        have be : ∀ x y z, Below w.heap.size w (((w4.setCell ⟨w.heap.size + 1, 0, none⟩ x).setCell ⟨w.heap.size + 1, 1, none⟩ y).setCell ⟨w.heap.size + 1, 2, none⟩ z) := fun x y z =>
          (((B.out.setCell (by show w.heap.size ≤ w.heap.size + 1; omega) _).setCell (by show w.heap.size ≤ w.heap.size + 1; omega) _).setCell (by show w.heap.size ≤ w.heap.size + 1; omega) _)
        have BE := Lib.hid be
        clear be
        rcases Bool.eq_false_or_eq_true (isMat R C (scaleL [] q)) with hd | hd
        · have E : Hid (MR.done R C (scaleL [] q) = ⟨true, R, C, scaleL [] q⟩) := by show MR.done R C (scaleL [] q) = _; unfold MR.done; rw [hd]; rfl
          rw [hd]
          clear hd
          unfold DoneRes
          go_wp2_with fail
          obtain ⟨E0, E1, E2, -, -, -⟩ := (((R2.out.set0 (.int .i64 R)).set1 (.int .i64 C)).set2 (.slice none 0 0)).all
          rw [E.out]
          refine bodyPost_ret (v := .tuple #[.agg #[.int .i64 R, .int .i64 C, .slice none 0 0], .bool true]) (by simp [results, Try.results18, go_sem, E0, E1, E2]) rfl ⟨_, rfl, .inl ⟨rfl, rfl⟩, ?_⟩
          · exact BE.out _ _ _
        · have E : Hid (MR.done R C (scaleL [] q) = MR.no) := by show MR.done R C (scaleL [] q) = _; unfold MR.done; rw [hd]; rfl
          rw [hd]
          clear hd
          unfold DoneRes
          go_wp2_with fail
          obtain ⟨E0, E1, E2, -, -, -⟩ := (((R2.out.set0 (.int .i64 0)).set1 (.int .i64 0)).set2 (.slice none 0 0)).all
          rw [E.out]
          exact bodyPost_ret (v := .tuple #[.agg #[.int .i64 0, .int .i64 0, .slice none 0 0], .bool false]) (by simp [results, Try.results18, go_sem, E0, E1, E2]) rfl ⟨_, rfl, .inl ⟨rfl, rfl⟩, BE.out _ _ _⟩
    · have gN : Hid (xs.length = N) := HX
      rw [HX.out] at hv gc
      subst hv
      have NE := gi.ne_blk K6.out
      have GI := Lib.hid gi
      clear in0 gi
      go_wp2_with fail
      go_loopw [7, 22] (fun _ i wr => ∃ k : Nat, i = .int .i64 k ∧ k ≤ N ∧ Ints wr g (mixL xs k (fun i => xs.getD i 0 * q)) ∧ wc.grownBy wr (some g)) (fun _ i _ => N - (intOf i).toNat)
      case atStart => exact ⟨0, rfl, by omega, by rw [mixL_zero]; exact GI.out, World.grownBy.refl _ _⟩
      case round =>
        obtain ⟨k, rfl, hk, hi, hgr⟩ := hrel
        have I := Lib.hid hi
        have G := Lib.hid hgr
        clear hi hgr
        have R2 := Lib.hid (K2.out.keepOne G.out (by omega))
        have R6 := Lib.hid (K6.out.keepOne G.out (Ne.symm NE))
        obtain ⟨r0, r1, r2, -, -, -⟩ := R6.out.all
        by_cases hlt : k < N
        · obtain ⟨x, hx⟩ : ∃ x, xs.getD k 0 = x := ⟨_, rfl⟩
          have v1 := nums_at NX.out (j := k) (by rw [HX.out]; exact hlt)
          have hold := I.out.cell (i := k) (by rw [mixL_length, HX.out]; exact hlt)
          rw [mixL_at, hx] at hold
          rw [hx] at v1
          obtain ⟨v11, v12⟩ := v1
          have hfr := I.out.free k
          have XX := Lib.hid hx
          obtain ⟨m1, m2⟩ := mul_num x q ⟨v11, v12⟩ ⟨q1, q2⟩
          clear hx
          go_wp2_with fail
          go_roundw
          case rel =>
            refine ⟨k + 1, by go_num, by omega, ?_, ?_⟩
            · rw [← mixL_step]
              rw [XX.out]
              first | exact I.out.set k _ | exact I.out.drew.set k _
            · first | exact grown_set_one G.out rfl _ | exact grown_drew_one (grown_set_one G.out rfl _)
          case measure => simp [intOf]; omega
        · obtain rfl : N = k := by omega
          have e : mixL xs N (fun i => xs.getD i 0 * q) = scaleL xs q := by rw [← HX.out, mixL_all]; rfl
          have I2 : Hid (Ints wr g (scaleL xs q)) := by have := I.out; rw [e] at this; exact this
          have hl : (scaleL xs q).length = N := by unfold scaleL; simp [HX.out]
          have HL := Lib.hid hl
          have B := Lib.hid (B.out.trans (below_of_one G.out (by omega) B.out.size))
          clear e hl
          go_wp2_with fail
          have ST := iDone R C (some ⟨g, 0, none⟩) qc (scaleL xs q) wr I2.out.rd (by rw [HL.out]; omega)
          rw [HL.out] at ST
          refine ST.mono ?_
          clear ST
          rintro e w4 ⟨rfl, hb⟩
          have R2 := Lib.hid (R2.out.step hb)
          have I2 := Lib.hid (I2.out.keep hb I2.out.lt)
          have B := Lib.hid (stepB B.out hb)
          clear hb
          obtain ⟨s0, s1, s2, t0, t1, t2⟩ := R2.out.all
          have be : ∀ x y z, Below w.heap.size w (((w4.setCell ⟨w.heap.size + 1, 0, none⟩ x).setCell ⟨w.heap.size + 1, 1, none⟩ y).setCell ⟨w.heap.size + 1, 2, none⟩ z) := fun x y z =>
            (((B.out.setCell (by show w.heap.size ≤ w.heap.size + 1; omega) _).setCell (by show w.heap.size ≤ w.heap.size + 1; omega) _).setCell (by show w.heap.size ≤ w.heap.size + 1; omega) _)
          have BE := Lib.hid be
          clear be
          rcases Bool.eq_false_or_eq_true (isMat R C (scaleL xs q)) with hd | hd
          · have E : Hid (MR.done R C (scaleL xs q) = ⟨true, R, C, scaleL xs q⟩) := by show MR.done R C (scaleL xs q) = _; unfold MR.done; rw [hd]; rfl
            rw [hd]
            clear hd
            unfold DoneRes
            go_wp2_with fail
            obtain ⟨E0, E1, E2, -, -, -⟩ := (((R2.out.set0 (.int .i64 R)).set1 (.int .i64 C)).set2 (.slice (some ⟨g, 0, none⟩) N qc)).all
            rw [E.out]
            refine bodyPost_ret (v := .tuple #[.agg #[.int .i64 R, .int .i64 C, .slice (some ⟨g, 0, none⟩) N qc], .bool true]) (by simp [results, Try.results18, go_sem, E0, E1, E2]) rfl ⟨_, rfl, ?_, ?_⟩
            · refine .inr ⟨g, qc, by rw [HL.out], by omega, ?_, by rw [HL.out]; omega, by rw [HL.out]; omega⟩
              exact ((I2.out.far (by show g ≠ w.heap.size + 1; omega) _).far (by show g ≠ w.heap.size + 1; omega) _).far (by show g ≠ w.heap.size + 1; omega) _
            · exact BE.out _ _ _
          · have E : Hid (MR.done R C (scaleL xs q) = MR.no) := by show MR.done R C (scaleL xs q) = _; unfold MR.done; rw [hd]; rfl
            rw [hd]
            clear hd
            unfold DoneRes
            go_wp2_with fail
            obtain ⟨E0, E1, E2, -, -, -⟩ := (((R2.out.set0 (.int .i64 0)).set1 (.int .i64 0)).set2 (.slice none 0 0)).all
            rw [E.out]
            exact bodyPost_ret (v := .tuple #[.agg #[.int .i64 0, .int .i64 0, .slice none 0 0], .bool false]) (by simp [results, Try.results18, go_sem, E0, E1, E2]) rfl ⟨_, rfl, .inl ⟨rfl, rfl⟩, BE.out _ _ _⟩
end Go.Proofs.Ytiggioccmlbhhaa
